/- Texts put together: UpdDo, UpdCrashP. -/
import Derived.Test.YtenkkdnepmoihaaGreatDoorUcbl
import Derived.Test.YtenkkdnepmoihaaGreatDoorUcbp
import Derived.Test.YtenkkdnepmoihaaGreatDoorUcbn
section
set_option maxRecDepth 20000
set_option linter.unusedVariables false
set_option linter.unusedSimpArgs false
namespace Go.Proofs.YtenkkdnepmoihaaGreatDoor
open Go.RowKit
theorem its64_nil:Its64 []:=fun k hk=>absurd hk (by simp)
section
variable {W w w':World} {b:Nat} {H H':BH} {N N':Bch} {K:List (Nat × Obj)} {R:List (Option Addr × List (List UInt8))} {S:List (Option Addr × List UInt8)} {I:List (Option Addr × List It)}
theorem KU.bc3 (h:KU W w b H N K R S I) (a:BP W w' b H' N') (c:Chg (BF b H N.n) w w') (m:BNew w b H H' N.n) (hn:N'.n=N.n):KU W w' b H' N' K R S I:=by
 have hx:KX W w' b H' N' K:=by
  refine ⟨a,fun p hp=>?_⟩
  obtain ⟨h1,h2,h3⟩:=h.ks.kx.kp p hp
  have hl:=(Array.getElem?_eq_some_iff.1 h1).1
  exact ⟨(c.block _ hl h2).trans h1,by rw [hn];exact BC.off m hl h2,h3⟩
 refine ⟨⟨hx,fun p hp=>by rw [hn];exact (h.ks.rx p hp).chg c (bnew_weak m),fun p hp=>by rw [hn];exact (h.ks.sx p hp).chg c (bnew_weak m)⟩,fun p hp=>?_⟩
 rw [hn]
 have h0:RdIF w (fun k=>BF b H' N.n k∨BF b H N.n k) p.1 p.2:=(h.it p hp).off fun k hk e=>e.elim (bnewI m k hk) id
 exact (h0.chg c fun k hk e=>.inr e).off fun k hk e=>.inl e
theorem bx_below {lv:List Bool} {A:Option Addr} {F:Nat→Prop} (h:RdOX F w A lv) (hb:Below w.heap.size w w'):RdOX F w' A lv :=
 ⟨h.1,fun hn=>by
  obtain ⟨b,off,e,hl,hf,hc⟩:=h.2 hn
  exact ⟨b,off,e,by have:=hb.size;omega,hf,fun k hk=>(hb.cell (p:=⟨b,off + k,none⟩) hl).trans (hc k hk)⟩⟩
theorem bx_chg {lv:List Bool} {A:Option Addr} {F F':Nat→Prop} (h:RdOX F w A lv) (hc:Chg F w w') (hF:∀ k,k < w.heap.size→F' k→F k):RdOX F' w' A lv :=
 ⟨h.1,fun hn=>by
  obtain ⟨b,off,e,hl,hf,hcl⟩:=h.2 hn
  exact ⟨b,off,e,Nat.lt_of_lt_of_le hl hc.size,fun q=>hf (hF b hl q),fun k hk=>cell_chg (hcl k hk) hc hf⟩⟩
end
set_option maxRecDepth 100000 in
set_option maxHeartbeats 1600000 in
theorem emptyC (W w:World) (b:Nat) (H:BH) (N:Bch) (h:BP W w b H N) (ht:TabOk W) (lv:List Bool) (LA:Option Addr) (ln lc:Nat) (hln:ln=lv.length) (hlv:RdOX (BF b H N.n) w LA lv) (s:Int) (hs:i64B s) (hps:∀ i,i < N.n→(N.D i).ps.length ≤ 900000) (hdn:N.done ≤ 900000) :
    Calls Tryz.prog 20 #[.pointer (some ⟨b,0,none⟩),.slice LA ln lc,.int .i64 s] w fun e w'=>e=.returned (.int .i64 (putS N lv s []).1)∧BC W w w' b H N.n (putS N lv s []).2:=by
 have CP:=Lib.hid (put_any W w b H N h ht lv LA ln lc hln hlv.rdo s [] none 0 0 rfl (Nat.le_refl _) (RdI.nil _ _ _) its64_nil hs (fun i hi=>by have:=hps i hi;omega) (by omega))
 clear hlv h hps hln
 go_enter Tryz.func20,Tryz.ntmps20
 go_wp2_with fail
 (with_reducible refine CP.out.mono ?_);rintro e w1 ⟨rfl,hc⟩
 have Hc:=Lib.hid hc
 clear hc CP
 go_wp2
 go_ret
 exact ⟨rfl,Hc.out⟩
set_option maxRecDepth 100000 in
set_option maxHeartbeats 3200000 in
theorem doC (hp:UpdP) (W w:World) (b:Nat) (H:BH) (N:Bch) (h:BP W w b H N) (ht:TabOk W) (lv:List Bool) (LA:Option Addr) (ln lc:Nat) (hln:ln=lv.length) (hlv:RdOX (BF b H N.n) w LA lv)
    (l d c n:Int) (hl:i64B l) (hd:i64B d) (hc:i64B c) (hn:i64B n) (XA:Option Addr) (xn xc:Nat) (x:List UInt8) (hx:x.length=xn) (hxc:xn ≤ xc) (hr:RdB w w.heap.size XA x) (s:Int) (hs:i64B s)
    (hf:upE N lv l d c n x=0→fillOk l d c (plOfR l d c n) (upX N lv l d c n x)=true) (hps:∀ i,i < N.n→(N.D i).ps.length ≤ 900000) (hdn:N.done ≤ 900000) (h64:Its64 (upL N lv l d c n x)) :
    Calls Tryz.prog 15 #[.pointer (some ⟨b,0,none⟩),.slice LA ln lc,.agg #[.int .i64 l,.int .i64 d,.int .i64 c],.int .i64 n,.slice XA xn xc,.int .i64 s] w fun e w'=>e=.returned (.int .i64 (doS N lv l d c n x s).1)∧BC W w w' b H N.n (doS N lv l d c n x s).2:=by
 have hn8:N.n ≤ 8:=h.at'.ok.n.2
 have hb0:=below1 w (.cells #[.int .i64 l,.int .i64 d,.int .i64 c] 24)
 have k0:KU W (w.alloc (.cells #[.int .i64 l,.int .i64 d,.int .i64 c] 24)) b H N [] [] [] []:=⟨⟨⟨h.grow hb0,fun _ hp=>absurd hp (by simp)⟩,fun _ hp=>absurd hp (by simp),fun _ hp=>absurd hp (by simp)⟩,fun _ hp=>absurd hp (by simp)⟩
 have CP:=Lib.hid (hp.plan W _ b H N (h.grow hb0) lv LA ln lc hln (bx_below hlv hb0) l d c n hl hd hc hn XA xn xc x hx hxc ((hr.below hb0 (Nat.le_refl _)).more hb0.size) s hs hf)
 have G:=gat_new w l d c 24 (0,0)
 obtain ⟨g1,g2,g3⟩:=G
 have Hself:=Lib.hid (fun (w':World) (hb:Below w.heap.size w w')=>(BP.self h).then hb)
 have Hlv:=Lib.hid hlv
 have K0:=Lib.hid k0
 have Hh:=Lib.hid h
 have Hps:=Lib.hid hps
 have Hln:=Lib.hid hln
 have hdo:=Lib.hid (show doS N lv l d c n x s=if upE N lv l d c n x ≠ 0 then (upE N lv l d c n x,N) else if (putS N lv s (upL N lv l d c n x)).1 ≠ 0 then putS N lv s (upL N lv l d c n x) else appS (putS N lv s (upL N lv l d c n x)).2 lv s (upL N lv l d c n x) from rfl)
 have hS:upE N lv l d c n x=0→upS N lv l d c n x s=s:=fun e=>if_neg (fun q=>q e)
 have hP:=put_len N lv s (upL N lv l d c n x) hn8
 have hPn:=put_n N lv s (upL N lv l d c n x)
 generalize doS N lv l d c n x s=q at hdo ⊢
 generalize upE N lv l d c n x=E at CP hdo hS
 generalize upS N lv l d c n x s=s1 at CP hS
 generalize upL N lv l d c n x=its at CP hdo h64 hP hPn
 clear h hlv hps k0 hr hf hp hl hd hc hn hx hxc hln
 go_enter Tryz.func15,Tryz.ntmps15
 go_wp2_with fail
 (with_reducible refine CP.out.mono ?_);rintro e w1 ⟨A,c',rfl,hcc,ho,hb1⟩
 have k1:=(K0.out.own hb1 ho)
 have k2:KU W (w1.alloc (.cells #[.int .i64 s1,.slice A its.length c'] 43)) b H N [(w1.heap.size,Obj.cells #[.int .i64 s1,.slice A its.length c'] 43 (0,0))] [] [] [(A,its)]:=⟨k1.ks.add _,fun p hp=>(k1.it p hp).below (below1 w1 _)⟩
 have hb2:Below w.heap.size w (w1.alloc (.cells #[.int .i64 s1,.slice A its.length c'] 43)):=(hb0.trans (hb1.mono hb0.size)).alloc (by have:=hb0.size;have:=hb1.size;omega) _
 have Hb2:=Lib.hid hb2
 have K2:=Lib.hid k2
 have L2:=Lib.hid (bx_below Hlv.out Hb2.out)
 clear k1 k2 hb2 ho hb1 hb0 K0 Hlv CP
 by_cases h0:E=0
 ·have e0:(E != 0)=false:=by rw [h0];rfl
  rw [if_neg (fun q=>q h0)] at hdo
  obtain rfl:s1=s:=hS h0
  subst h0
  have CPu:=Lib.hid (put_any W _ b H N K2.out.ks.bp ht lv LA ln lc Hln.out L2.out.rdo s1 its A its.length c' rfl hcc (K2.out.it (A,its) (by simp)).rdI h64 hs (fun i hi=>by have:=Hps.out i hi;omega) (by omega))
  generalize putS N lv s1 its=p at hdo CPu hP hPn
  obtain ⟨E1,N1⟩:=p
  dsimp only at hdo CPu hP hPn
  go_wp2_with fail
  (with_reducible refine CPu.out.mono ?_);rintro e w3 ⟨rfl,hc3⟩
  obtain ⟨H3,a3,c3,m3⟩:=hc3
  have K3:=Lib.hid (K2.out.bc3 a3 c3 m3 hPn)
  have L3:=Lib.hid (show RdOX (BF b H3 N1.n) w3 LA lv from by rw [hPn];exact bx_chg L2.out c3 (bnewI m3))
  have z:=Lib.hid ((K3.out.ks.kx.kp _ (List.mem_cons_self ..)).1)
  have Hc3:=Lib.hid c3
  have Hm3:=Lib.hid m3
  have Ha3:=Lib.hid a3
  clear c3 m3 a3 CPu
  by_cases h1:E1=0
  ·rw [if_neg (fun q=>q h1)] at hdo
   subst h1
   have CAp:=Lib.hid (app_any W w3 b H3 N1 K3.out.ks.bp lv LA ln lc Hln.out L3.out.rdo s1 its A its.length c' rfl hcc (K3.out.it (A,its) (by simp)) h64 hs (fun i hi=>by have:=hP.1 i;have:=Hps.out i (by rw [← hPn];exact hi);omega) (by have:=hP.2;omega))
   have z0:=cell_of_row w3 _ 0 _ _ _ z.out
   have z1:=cell_of_row w3 _ 1 _ _ _ z.out
   go_wp2_with fail
   (with_reducible refine CAp.out.mono ?_);rintro e w4 ⟨rfl,hc4⟩
   rw [hPn] at hc4
   have Hfin:=Lib.hid (BC.below (H:=H) Hb2.out (BC.seq Hc3.out Hm3.out hc4))
   clear hc4 CAp z0 z1
   go_wp2
   go_ret
   rw [hdo.out]
   exact ⟨rfl,Hfin.out⟩
  ·have e1:(E1 != 0)=true:=by rw [bne_iff_ne];exact h1
   rw [if_pos h1] at hdo
   have Hfin:=Lib.hid (BC.below (H:=H) Hb2.out ⟨H3,Ha3.out,Hc3.out,Hm3.out⟩)
   clear h1
   go_wp2
   go_ret
   rw [hdo.out]
   exact ⟨rfl,Hfin.out⟩
 ·have e0:(E != 0)=true:=by rw [bne_iff_ne];exact h0
  rw [if_pos h0] at hdo
  have Hfin:=Lib.hid (Hself.out _ Hb2.out)
  clear h0
  go_wp2
  go_ret
  rw [hdo.out]
  exact ⟨rfl,Hfin.out⟩
theorem up_64 {N:Bch} {lv:List Bool} {l d c n:Int} {x:List UInt8} (hn:N.n ≤ 8):Its64 (upL N lv l d c n x):=by
 by_cases h0:upE N lv l d c n x=0
 ·have hp:plOfOk l d c n=true:=by
    rw [← Bool.not_eq_false];intro e
    unfold upE at h0
    rw [e] at h0
    split at h0 <;> cases h0
  have hr:=(plOk_yes (nums_at hp).1).2
  have e:upL N lv l d c n x=upIts N lv (36 + (plOfR l d c n).toNat) (fillL (roD d) (roF l d c (plOfR l d c n)) (upX N lv l d c n x)) (upK l d c n):=if_neg (fun q=>q h0)
  intro k hk
  rw [e] at hk ⊢
  obtain ⟨i,_,hs,hi⟩:=mem_upIts.1 (itN_mem hk)
  have h1:=(srvD_yes hs).1
  rw [hi]
  exact ⟨⟨by show _ ≤ ((i:Nat):Int);omega,by show ((i:Nat):Int) ≤ _;omega⟩,⟨by show _ ≤ (((36 + (plOfR l d c n).toNat:Nat)):Int);omega,by show (((36 + (plOfR l d c n).toNat:Nat)):Int) ≤ _;omega⟩⟩
 ·rw [upL_no h0];exact its64_nil
theorem updC_of (hp:UpdP):UpdC :=
 ⟨fun W w b H N h ht lv LA ln lc hln hlv l d c n hl hd hc hn XA xn xc x hx hxc hr s hs hf hps hdn=>doC hp W w b H N h ht lv LA ln lc hln hlv l d c n hl hd hc hn XA xn xc x hx hxc hr s hs hf hps hdn (up_64 h.at'.ok.n.2),
  fun W w b H N h ht lv LA ln lc hln hlv s hs hps hdn=>emptyC W w b H N h ht lv LA ln lc hln hlv s hs hps hdn⟩
end Go.Proofs.YtenkkdnepmoihaaGreatDoor
end
section
set_option maxRecDepth 20000
set_option linter.unusedVariables false
set_option linter.unusedSimpArgs false
namespace Go.Proofs.YtenkkdnepmoihaaGreatDoor
open Go.RowKit
theorem put_arr {N:Bch} {D:Nat} {lv:List Bool} {l c:Int} {W:Nat} {ds:Nat→List (List UInt8)} (h:Arr N D lv l c W ds) (hD:D ≤ 8) {s:Int} {its:List It} (hok:recOk s its=true):(putS N lv s its).1=0∧Arr (putS N lv s its).2 D lv l c W ds∧(∀ j,j < D→((putS N lv s its).2.D j).f=(N.D j).f)∧(putS N lv s its).2.done ≤ N.done + 32:=by
 have hn:=h.st.n
 obtain ⟨p0,pg⟩:=put_good (lv:=lv) h.st.good (by rw [hn];exact hD) hok
 have pd:=put_data (lv:=lv) h.st.good hok
 have hf:∀ j,j < D→((putS N lv s its).2.D j).f=(N.D j).f:=fun j hj=>pg.f j (by rw [hn];exact hj)
 refine ⟨p0,⟨⟨pg.n.trans hn,pg.good,fun i hi t ht hs=>?_⟩,h.da⟩,hf,pg.done⟩
 have hs':srvD N lv i=true:=(srvD_congr pg.n (hf i hi)).symm.trans hs
 rw [pd i (by rw [hn];exact hi) (srvD_yes hs').2.2 (36 + t) (by omega) (by omega)]
 exact h.st.at' i hi t ht hs'
theorem cnt_le1 {N:Bch} {D d:Nat} {lv:List Bool} (h:∀ i,i < D→i ≠ d→srvD N lv i=true):cntB D (fun i=>!srvD N lv i) ≤ 1:=by
 have h:cntB D (fun i=>!srvD N lv i) ≤ cntB D (fun i=>decide (i=d)):=by
  unfold cntB
  refine len_le_map (f:=id) (List.nodup_range.filter _) (fun a _ b _ e=>e) fun i hi=>?_
  obtain ⟨h1,h2⟩:=List.mem_filter.1 hi
  have h1':=List.mem_range.1 h1
  refine List.mem_filter.2 ⟨h1,?_⟩
  show decide (i=d)=true
  by_cases e:i=d
  ·exact decide_eq_true e
  ·rw [h i h1' e] at h2;cases h2
 exact Nat.le_trans h (cntB_one_le _ _)
structure Fnd (M:Bch) (D:Nat) (lv:List Bool) (l c:Int) (W:Nat) (s:Int) (li:List It) (ds:Nat→List (List UInt8)):Prop where
 p0:(putS M lv s li).1=0
 a0:(appS (putS M lv s li).2 lv s li).1=0
 arr:Arr (appS (putS M lv s li).2 lv s li).2 D lv l c W ds
 f:∀ j,j < D→((appS (putS M lv s li).2 lv s li).2.D j).f=(M.D j).f
 done:(putS M lv s li).2.done ≤ M.done + 32
 i64:Its64 li
 s64:1 ≤ s∧s ≤ 2
theorem cut_found {N1 N4 N5:Bch} {D W ρ k F:Nat} {lv lv5:List Bool} {nn l c r:Int} {ds:Nat→List (List UInt8)} {x:List UInt8} {dn:Bool} (gr:Gr nn l c r D F W) (hρ:ρ < 16) (hk:k < W) (hx:x.length=32) (ha1:Arr N1 D lv l c W ds) (up1:Up N1 D) (hlive:∀ i,i < D→lv.getD i false=true) (hlog1:∀ j,j < D→logR (N1.D j)=recB 1 [])
    (hf4:∀ j,j < D→(N4.D j).f=false) (hol:Olds N4 D (recB 1 []) (recB 2 (chIts N1 D lv l c W ρ k ds x))) (hmix:Mix N4 D l c W ρ k ds (dsSet ds ρ k x))
    (halt:(dn=true∧∀ i,i < D→∀ t,t < 16→secAt (N4.D i).now (36 + t)=(flG l c D ds t).getD i [])∨(∀ j,j < D→logR (N4.D j)=recB 2 (chIts N1 D lv l c W ρ k ds x)))
    (hfine:∀ j,j < D→Fine N4 N1 (chIts N1 D lv l c W ρ k ds x) j) (hn5:N5.n=D) (hg5:GoodB N5) (hpair:∀ j,j < D→N5.D j=N4.D j∨(N5.D j).f=true) (hoth:∃ d,∀ j,j < D→j ≠ d→N5.D j=N4.D j∧lv5.getD j false=true) :
    (∃ d,∀ i,i < D→i ≠ d→srvD N5 lv5 i=true)∧((getS N5 lv5=(0,[])∧dn=true∧Arr N5 D lv5 l c W ds)∨∃ s li dsF,getS N5 lv5=(s,li)∧Fnd N5 D lv5 l c W s li dsF∧(dsF=dsSet ds ρ k x∨(dsF=ds∧dn=true))):=by
 have hd8:=gr.d8
 have hd3:=gr.d3
 have hall:∀ i,i < D→srvD N1 lv i=true:=fun i hi=>srvD_mk (by rw [up1.n];exact hi) (hlive i hi) (up1.f i hi)
 have hcnt:((cntB D (fun i=>!srvD N1 lv i):Nat):Int) ≤ l - 4:=by
  rw [cntB_none fun i hi=>by rw [hall i hi];rfl]
  have:=gr.lv;omega
 have hok:=ch_ok (N:=N1) (lv:=lv) gr ha1.da hρ hk hx (s:=2) (by omega)
 obtain ⟨_,u1,_⟩:=up_at (gr.at hρ) hk hx (ha1.ok gr hρ hcnt)
 have h64:Its64 (chIts N1 D lv l c W ρ k ds x):=by
  have:=up_64 (N:=N1) (lv:=lv) (l:=l) (d:=(D:Int)) (c:=c) (n:=plN l (D:Int) c (ρ:Int) (k:Int)) (x:=x) (by rw [up1.n];exact hd8)
  rw [u1] at this;exact this
 have hne:chIts N1 D lv l c W ρ k ds x ≠ []:=fun e=>by
  have:1 ≤ (chIts N1 D lv l c W ρ k ds x).length:=upIts_pos (gr.at hρ) hk (by rw [cntB_none fun i hi=>by rw [hall i hi];rfl];omega)
  rw [e] at this;simp at this
 obtain ⟨d,hoth⟩:=hoth
 have hsrv:∀ i,i < D→i ≠ d→srvD N5 lv5 i=true:=fun i hi hne=>by
  obtain ⟨q1,q2⟩:=hoth i hi hne
  exact srvD_mk (by rw [hn5];exact hi) q2 (by rw [q1];exact hf4 i hi)
 have hsame:∀ j,j < D→srvD N5 lv5 j=true→N5.D j=N4.D j:=fun j hj hs=>by
  rcases hpair j hj with q | q
  ·exact q
  ·rw [(srvD_yes hs).2.2] at q;cases q
 have hst:∀ j,j < D→rcO (logR (N4.D j))=true→rcL (logR (N4.D j))=[]∨rcL (logR (N4.D j))=chIts N1 D lv l c W ρ k ds x:=fun j hj ho=>by
  rcases hfine j hj ho with q | q | ⟨_,q⟩
  ·exact .inl q
  ·exact .inr q
  ·rw [hlog1 j hj,rcL_recB ok1] at q;exact .inl q
 have hex:∃ j,j < D∧srvD N5 lv5 j=true:=by
  by_cases e:d=0
  ·exact ⟨1,by omega,hsrv 1 (by omega) (by omega)⟩
  ·exact ⟨0,by omega,hsrv 0 (by omega) (by omega)⟩
 have hmix5:Mix N5 D l c W ρ k ds (dsSet ds ρ k x):=fun i hi t ht hf=>by
  rcases hpair i hi with q | q
  ·rw [q] at hf ⊢;exact hmix i hi t ht hf
  ·rw [hf] at q;cases q
 have hold5:(dn=true∧∀ i,i < D→∀ t,t < 16→secAt (N4.D i).now (36 + t)=(flG l c D ds t).getD i [])→∀ i,i < D→∀ t,t < 16→srvD N5 lv5 i=true→secAt (N5.D i).now (36 + t)=(flG l c D ds t).getD i []:=fun ho i hi t ht hs=>by
  rw [hsame i hi hs];exact ho.2 i hi t ht
 refine ⟨⟨d,hsrv⟩,?_⟩
 rcases get_cut hok hne hn5 hg5.dn hol (fun j hj hs=>by rw [hsame j hj hs]) hst hex halt with h | ⟨h | h,ho⟩
 ·right
  obtain ⟨p0,a0,ar,f,dd⟩:=mix_apply (lv':=lv5) gr ha1.da hρ hk hx hn5 hg5 hmix5 hall (s:=2) (by omega)
  exact ⟨2,_,_,h,⟨p0,a0,ar,f,dd,h64,by omega⟩,.inl rfl⟩
 ·right
  obtain ⟨p0,a0,ar,f,dd⟩:=empty_apply (lv':=lv5) (l:=l) (c:=c) ha1.da hn5 hd8 hg5 (hold5 ho) (s:=1) (by omega)
  exact ⟨1,[],ds,h,⟨p0,a0,ar,f,dd,fun k hk=>absurd hk (by simp),by omega⟩,.inr ⟨rfl,ho.1⟩⟩
 ·left
  exact ⟨h,ho.1,⟨⟨hn5,hg5,fun i hi t ht hs=>hold5 ho i hi t ht hs⟩,ha1.da⟩⟩
end Go.Proofs.YtenkkdnepmoihaaGreatDoor
end
