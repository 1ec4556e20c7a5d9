/- Texts put together: LogApply, LogPut. -/
import Derived.Test.YtenkkdnepmoihaaGreatDoorUcbc
import Derived.Test.YtenkkdnepmoihaaGreatDoorUcal
import Derived.Test.YtenkkdnepmoihaaGreatDoorUcao
import Derived.Test.YtenkkdnepmoihaaGreatDoorUcat
section
set_option maxRecDepth 8000
set_option linter.unusedVariables false
set_option linter.unusedSimpArgs false
namespace Go.Proofs.YtenkkdnepmoihaaGreatDoor
open Go.RowKit
theorem filt_yes {f:It→Bool} {l:List It} {j:Nat} (h:j < l.length) (hf:f (itN l j)=true):(l.take (j + 1)).filter f=(l.take j).filter f ++ [itN l j]:=by
 rw [its_take h,List.filter_append,List.filter_cons_of_pos hf,List.filter_nil]
theorem filt_no {f:It→Bool} {l:List It} {j:Nat} (h:j < l.length) (hf:f (itN l j)=false):(l.take (j + 1)).filter f=(l.take j).filter f:=by
 rw [its_take h,List.filter_append,List.filter_cons_of_neg (by simp [hf]),List.filter_nil,List.append_nil]
theorem filt_len (f:It→Bool) (l:List It) (j:Nat):((l.take j).filter f).length ≤ j:=by
 have h1:=List.length_filter_le f (l.take j)
 have h2:(l.take j).length ≤ j:=by simp;omega
 omega
theorem its64_sub {l m:List It} (h:Its64 l) (hs:∀ x ∈ m,x ∈ l):Its64 m:=fun k hk=>by
 obtain ⟨i,hi,e⟩:=List.getElem_of_mem (hs _ (itN_mem hk))
 have:=h i hi
 rw [show itN l i=l[i] from by simp [itN,List.getD_eq_getElem?_getD,hi],e] at this
 exact this
set_option maxHeartbeats 4000000 in
theorem app_any (W w:World) (b:Nat) (H:BH) (N:Bch) (h:BP W w b H N) (lv:List Bool) (LA:Option Addr) (ln lc:Nat) (hln:ln=lv.length) (hlv:RdO w w.heap.size LA lv)
    (s:Int) (l:List It) (A:Option Addr) (n c:Nat) (hn:n=l.length) (hnc:n ≤ c) (hr:RdIF w (BF b H N.n) A l) (h64:Its64 l) (hs:(-9223372036854775808 ≤ s∧s ≤ 9223372036854775807))
    (hps:∀ i,i < N.n→(N.D i).ps.length ≤ 1000000) (hdn:N.done ≤ 1000000) :
    Calls Tryz.prog 31 #[.pointer (some ⟨b,0,none⟩),.slice LA ln lc,.agg #[.int .i64 s,.slice A n c]] w fun e w'=>e=.returned (.int .i64 (appS N lv s l).1)∧BC W w w' b H N.n (appS N lv s l).2:=by
 subst hn hln
 have hrd:=hr.rdI
 have Hh:=Lib.hid h
 have B1:=below1 w (.cells #[.int .i64 s,.slice A l.length c] 43)
 have c1:=cell_of_row _ _ 1 _ _ _ (heap_alloc_new w (.cells #[.int .i64 s,.slice A l.length c] 43))
 have C1:=Lib.hid c1
 cases hk:recOk s l with
 | false =>
   have CK:=Lib.hid (recCheck_no A l.length c s l _ rfl hnc hs (hrd.later B1) h64 (Lib.hid hk))
   have HE:=Lib.hid (show appS N lv s l=(1,N) by unfold appS;rw [hk];rfl)
   have Hb1:=Lib.hid B1
   clear hk hr h64 hps hdn hrd hlv h B1 c1 C1
   go_enter Tryz.func31,Tryz.ntmps31
   go_wp2_with fail
   refine CK.out.mono ?_
   rintro e w1 ⟨rfl,hb⟩
   have B2:=Lib.hid (Hb1.out.trans (hb.mono Hb1.out.size))
   clear hb
   go_wp2
   go_ret
   exact ⟨by rw [HE.out];rfl,by rw [HE.out];exact BC.below B2.out (Hh.out.grow B2.out).self⟩
 | true =>
   have CK:=Lib.hid (recCheck_yes A l.length c s l _ rfl hnc hs (hrd.later B1) h64 (Lib.hid hk))
   have HE:=Lib.hid (show appS N lv s l=settleS N (l.filter (liveI N.n lv)) by unfold appS;rw [hk];rfl)
   have HM:=Lib.hid (fun j (hj:j < l.length)=>recOk_may hk _ (itN_mem hj))
   have hl3:=((recOk_iff s l).1 hk).1.2.2
   have Hr:=Lib.hid hr
   have H64:=Lib.hid h64
   have Hlv:=Lib.hid hlv
   have Hoff:=Lib.hid (show ∀ k,w.heap.size ≤ k→¬ BF b H N.n k from fun k hk e=>by have:=(h.at'.flt e).2;omega)
   have CS:=Lib.hid (fun V (hV:Below w.heap.size w V) (m:List It) (A2:Option Addr) (c2:Nat) (hm:RdIF V (BF b H N.n) A2 m) (h6:Its64 m)=>settle_any W V b H N (h.grow hV) m A2 m.length c2 rfl hm h6 hps hdn)
   have Hb1:=Lib.hid B1
   clear hk hr h64 hps hdn hrd hlv h B1 c1
   go_enter Tryz.func31,Tryz.ntmps31
   go_wp2_with fail
   refine CK.out.mono ?_
   rintro e w1 ⟨rfl,hb⟩
   have c1:=(hb.cell (p:=⟨w.heap.size,1,none⟩) (by show w.heap.size < _;simp)).trans C1.out
   have B2:=Lib.hid (Hb1.out.trans (hb.mono Hb1.out.size))
   clear hb CK
   go_wp2
   go_loopw [8,19] (fun v i wr=>∃ j:Nat,j ≤ l.length∧i=.int .i64 j∧OwIP 92 wr w.heap.size (fun k=>¬ BF b H N.n k) v ((l.take j).filter (liveI N.n lv))∧Below w.heap.size w wr) (fun _ i _=>l.length - (intOf i).toNat)
   case atStart=>exact ⟨0,Nat.zero_le _,rfl,OwIP.nil _ _ _ _,B2.out⟩
   case round =>
    obtain ⟨j,hj,rfl,ho,hbr⟩:=hrel
    by_cases hlt:j < l.length
    ·have hm:=HM.out j hlt
     obtain ⟨g,rfl,hg,_,hc⟩:=Hr.out.2 (by omega)
     obtain ⟨D,cd,hrp,hcap,hrd,hof⟩:=hc j hlt
     have Hty:=Lib.hid (filt_yes (f:=liveI N.n lv) hlt)
     have Htn:=Lib.hid (filt_no (f:=liveI N.n lv) hlt)
     have Hfl:=Lib.hid (filt_len (liveI N.n lv) l j)
     generalize itN l j=y at hrp hrd hcap Hty Htn hm hof
     have Hrp:=Lib.hid (rangeAt_keep (w':=wr) hrp fun k=>hbr.cell hg)
     have BX:=below1 wr (.cells #[.int .i64 y.d,.int .i64 y.a,.slice D y.b.length cd] 92)
     have c':=fun i=>cell_of_row _ _ i _ _ _ (heap_alloc_new wr (.cells #[.int .i64 y.d,.int .i64 y.a,.slice D y.b.length cd] 92))
     have BB:=hbr.alloc hbr.size (.cells #[.int .i64 y.d,.int .i64 y.a,.slice D y.b.length cd] 92)
     have hbz:=hbr.size
     generalize hW1:wr.alloc (.cells #[.int .i64 y.d,.int .i64 y.a,.slice D y.b.length cd] 92)=W1 at BX c' BB
     have CL:=Lib.hid (isLive_any _ b H N W1 (Hh.out.grow BB).at' lv LA lv.length lc rfl (Hlv.out.keep BB.size fun p hp=>BB.cell hp) y.d hm.1 (by omega))
     have B2':=below1 W1 (.cells #[.int .i64 y.d,.int .i64 y.a,.slice D y.b.length cd] 92)
     have ho1:=Lib.hid (ho.below BX)
     have ho2:=Lib.hid ((ho.below BX).below B2')
     have hrd2:RdB (W1.alloc (.cells #[.int .i64 y.d,.int .i64 y.a,.slice D y.b.length cd] 92)) (W1.alloc (.cells #[.int .i64 y.d,.int .i64 y.a,.slice D y.b.length cd] 92)).heap.size D y.b:=((hrd.below BB (Nat.le_refl _)).more BB.size |>.below B2' (Nat.le_refl _)).more B2'.size
     have HSr:=Lib.hid (fun (ob:Option Nat) (hob:ob=u8.ownBlock)=>src_oneP (P:=fun k=>¬ BF b H N.n k) (ob:=ob) (x:=y) (c:=cd) (heap_alloc_new W1 (.cells #[.int .i64 y.d,.int .i64 y.a,.slice D y.b.length cd] 92)) hrd2 hcap (fun h0 a ha=>by
      refine ⟨fun e=>?_,hof h0 a ha⟩
      rw [hob] at e
      obtain ⟨b',off',e2,hb',_⟩:=hrd.2 h0
      rw [ha] at e2
      injection e2 with e2
      subst e2
      have:=(ho.lt b' e.symm).1
      omega))
     have BB1:=Lib.hid BB
     have BB2:=Lib.hid (BB.alloc BB.size (.cells #[.int .i64 y.d,.int .i64 y.a,.slice D y.b.length cd] 92))
     have hzz:=Lib.hid (BB2.out.size)
     have k0:(0:Int) ≤ (j:Int):=by omega
     have k1:(j:Int) < (l.length:Int):=by omega
     obtain ⟨b0,b1,b2⟩:=And.intro (c' 0) (And.intro (c' 1) (c' 2))
     have Hlt:=Lib.hid (ho.lt)
     clear hrp hrd hcap hc ho BX BB B2' hrd2 c' hof hm
     have Hlf:Hid (liveI N.n lv y=liveD N.n lv y.d):=rfl
     rw [Hlf.out] at Hty Htn
     unfold ptr at CL
     cases hx:liveD N.n lv y.d with
     | false =>
       rw [hx] at CL
       have Htn:=Lib.hid (Htn.out hx)
       clear Hty hx
       go_wp2_with (first
        |((with_reducible refine (id ?_:wpList _ _ _ (⟨some 22,_,_,_,_,_⟩::_) _ _));refine wpList_load_mid rfl 92 _ (by rfl) g (j * 3) (by rfl) [.int .i64 y.d,.int .i64 y.a,.slice D y.b.length cd] _ Hrp.out Tryz.underlying92 rfl (by kernel_rfl) ?_)
        |(go_at_call 46;refine CL.out.mono ?_;rintro e w5 ⟨rfl,rfl⟩))
       go_roundw
       case rel=>exact ⟨j + 1,by omega,by go_num,by rw [Htn.out];exact ho1.out,BB1.out⟩
       case measure=>simp [intOf];omega
     | true =>
       rw [hx] at CL
       have Hty:=Lib.hid (Hty.out hx)
       clear Htn hx
       go_wp2_with (first
        |((with_reducible refine (id ?_:wpList _ _ _ (⟨some 22,_,_,_,_,_⟩::_) _ _));refine wpList_load_mid rfl 92 _ (by rfl) g (j * 3) (by rfl) [.int .i64 y.d,.int .i64 y.a,.slice D y.b.length cd] _ Hrp.out Tryz.underlying92 rfl (by kernel_rfl) ?_)
        |(go_at_call 46;refine CL.out.mono ?_;rintro e w5 ⟨rfl,rfl⟩)
        |((with_reducible refine (id ?_:wpList _ _ _ (⟨some 31,_,_,_,_,_⟩::_) _ _));refine wpList_append_P _ _ (by rfl) _ _ _ (by rfl) w.heap.size 92 Tryz.underlying41 infoI u8 _ (by rfl) ho2.out (some ⟨w5.heap.size,0,none⟩) 1 1 _ (by rfl) (by rfl) (HSr.out _ rfl) (by show _ + 1 ≤ _;have:=Hfl.out;omega) hzz.out ?_
          intro v4 w4 O4 g4 _))
       go_roundw
       case rel =>
        refine ⟨j + 1,by omega,by go_num,?_,?_⟩
        ·rw [Hty.out];exact O4
        ·exact BB2.out.grown g4 BB2.out.size (fun k e=>(Hlt.out k e).1)
       case measure=>simp [intOf];omega
    ·obtain rfl:j=l.length:=by omega
     rw [List.take_length] at ho
     obtain ⟨A2,c2,rfl,_,hm⟩:=ho.rd (F:=BF b H N.n) Hoff.out (fun _ h=>h)
     have CS:=Lib.hid (CS.out wr hbr _ A2 c2 hm (its64_sub H64.out fun x hx=>(List.mem_filter.1 hx).1))
     have Hbr:=Lib.hid hbr
     clear ho hm hbr
     go_wp2_with fail
     refine CS.out.mono ?_
     rintro e w5 ⟨rfl,ht⟩
     have Ht:=Lib.hid (BC.below Hbr.out ht)
     clear ht
     go_wp2
     go_ret
     exact ⟨by rw [HE.out];rfl,by rw [HE.out];exact Ht.out⟩
end Go.Proofs.YtenkkdnepmoihaaGreatDoor
end
section
set_option maxRecDepth 8000
set_option linter.unusedVariables false
set_option linter.unusedSimpArgs false
namespace Go.Proofs.YtenkkdnepmoihaaGreatDoor
open Go.RowKit
theorem put_64 (n:Nat) (lv:List Bool) (rs:List (List UInt8)) (d:Nat) (hd:d ≤ 100) (hr:rs.length ≤ 100):Its64 (putTo n lv rs d):=fun k hk=>by
 obtain ⟨j,i,hj,hi,_,e⟩:=mem_put.1 (itN_mem hk)
 rw [e]
 exact ⟨by show _ ≤ (j:Int)∧(j:Int) ≤ _;omega,by show _ ≤ ((2 + i:Nat):Int)∧((2 + i:Nat):Int) ≤ _;omega⟩
set_option maxHeartbeats 4000000 in
theorem put_any (W w:World) (b:Nat) (H:BH) (N:Bch) (h:BP W w b H N) (ht:TabOk W) (lv:List Bool) (LA:Option Addr) (ln lc:Nat) (hln:ln=lv.length) (hlv:RdO w w.heap.size LA lv)
    (s:Int) (l:List It) (A:Option Addr) (n c:Nat) (hn:n=l.length) (hnc:n ≤ c) (hrd:RdI w w.heap.size A l) (h64:Its64 l) (hs:(-9223372036854775808 ≤ s∧s ≤ 9223372036854775807))
    (hps:∀ i,i < N.n→(N.D i).ps.length ≤ 1000000) (hdn:N.done ≤ 1000000) :
    Calls Tryz.prog 30 #[.pointer (some ⟨b,0,none⟩),.slice LA ln lc,.agg #[.int .i64 s,.slice A n c]] w fun e w'=>e=.returned (.int .i64 (putS N lv s l).1)∧BC W w w' b H N.n (putS N lv s l).2:=by
 subst hn hln
 have htw:TabOk w:=ht.below h.bel ht.pos
 have Hh:=Lib.hid h
 have B1:=below1 w (.cells #[.int .i64 s,.slice A l.length c] 43)
 have ht1:=htw.below B1 htw.pos
 have Hb1:=Lib.hid B1
 have hn8:=h.at'.ok.n
 cases hk:recOk s l with
 | false =>
   have CK:=Lib.hid (encode_no A l.length c s l _ rfl hnc hs (hrd.later B1) h64 (Lib.hid hk))
   have HE:=Lib.hid (show putS N lv s l=(1,N) by unfold putS;rw [hk];rfl)
   clear hk h64 hps hdn hrd hlv h B1 ht htw ht1
   go_enter Tryz.func30,Tryz.ntmps30
   go_wp2_with fail
   refine CK.out.mono ?_
   rintro e w1 ⟨rfl,hb⟩
   have B2:=Lib.hid (Hb1.out.trans (hb.mono Hb1.out.size))
   clear hb
   go_wp2
   go_ret
   exact ⟨by rw [HE.out];rfl,by rw [HE.out];exact BC.below B2.out (Hh.out.grow B2.out).self⟩
 | true =>
   have CK:=Lib.hid (encode_yes A l.length c s l _ rfl hnc hs (hrd.later B1) h64 (Lib.hid hk) ht1)
   have HE:=Lib.hid (show putS N lv s l=settleS N (putTo N.n lv (recB s l) N.n) by unfold putS;rw [hk];rfl)
   have h4:=recB_len (s:=s) ((recOk_iff s l).1 hk).1.2.2
   generalize recB s l=rs at CK HE h4
   have H4:=Lib.hid h4
   have Hlv:=Lib.hid hlv
   have Hoff:=Lib.hid (show ∀ k,w.heap.size ≤ k→¬ BF b H N.n k from fun k hk e=>by have:=(h.at'.flt e).2;omega)
   have CS:=Lib.hid (fun V (hV:Below w.heap.size w V) (m:List It) (A2:Option Addr) (c2:Nat) (hm:RdIF V (BF b H N.n) A2 m) (h6:Its64 m)=>settle_any W V b H N (h.grow hV) m A2 m.length c2 rfl hm h6 hps hdn)
   have CN:=Lib.hid (fun V (hV:Below w.heap.size w V)=>bch_len_any _ b H N V (h.grow hV).at')
   have CL:=Lib.hid (fun V (hV:Below w.heap.size w V) (d:Nat) (hd:d < N.n)=>isLive_any _ b H N V (h.grow hV).at' lv LA lv.length lc rfl (hlv.keep hV.size fun p hp=>hV.cell hp) (d:Int) (by omega) (by omega))
   clear hk h64 hps hdn hrd hlv h B1 ht htw ht1 h4
   unfold ptr at CN CL
   go_enter Tryz.func30,Tryz.ntmps30
   go_wp2_with fail
   refine CK.out.mono ?_
   rintro e w2 ⟨g,bk,rfl,hp,hb⟩
   have B2:=Lib.hid (Hb1.out.trans (hb.mono Hb1.out.size))
   have HP:=Lib.hid (fun V (hV:Below w2.heap.size w2 V)=>hp.below hV)
   have HPb:=Lib.hid (fun k hk=>hp.blt k hk)
   have hz1:w.heap.size < (w.alloc (.cells #[.int .i64 s,.slice A l.length c] 43)).heap.size:=by simp
   have Hz1:=Lib.hid hz1
   clear hb CK hp hz1
   go_wp2_with (go_at_call 45;refine (CN.out _ B2.out).mono ?_;rintro e w3 ⟨rfl,h3⟩;obtain rfl:w2=w3:=h3.symm)
   go_loopw [9,23] (fun v i wr=>∃ d:Nat,d ≤ N.n∧i=.int .i64 d∧OwIP 92 wr w2.heap.size (fun k=>¬ BF b H N.n k) v (putTo N.n lv rs d)∧Below w2.heap.size w2 wr) (fun _ i _=>N.n - (intOf i).toNat)
   case atStart=>exact ⟨0,Nat.zero_le _,rfl,OwIP.nil _ _ _ _,Below.refl _ _⟩
   case round =>
    obtain ⟨d,hd,rfl,ho,hbr⟩:=hrel
    have Ho:=Lib.hid ho
    have Hbr:=Lib.hid hbr
    have Hbw:=Lib.hid (B2.out.trans (hbr.mono B2.out.size))
    clear ho hbr
    by_cases hlt:d < N.n
    ·have k0:(0:Int) ≤ (d:Int):=by omega
     have k1:(d:Int) < (N.n:Int):=by omega
     have CLd:=Lib.hid (CL.out wr Hbw.out d hlt)
     cases hx:liveD N.n lv (d:Int) with
     | false =>
       rw [hx] at CLd
       have Hn:=Lib.hid (putTo_no (rs:=rs) hx)
       clear hx
       go_wp2_with (go_at_call 46;refine CLd.out.mono ?_;rintro e w5 ⟨rfl,rfl⟩)
       go_roundw
       case rel=>exact ⟨d + 1,by omega,by go_num,by rw [Hn.out];exact Ho.out,Hbr.out⟩
       case measure=>simp [intOf];omega
     | true =>
       rw [hx] at CLd
       have Hy:=Lib.hid (putTo_yes (rs:=rs) hx)
       have Hpl:=Lib.hid (putTo_len N.n lv rs d)
       have hpl8:(putTo N.n lv rs d).length ≤ 100:=by
        have h1:=Hpl.out
        have h2:d * rs.length ≤ 8 * rs.length:=Nat.mul_le_mul_right _ (by omega)
        rw [H4.out] at h1 h2
        omega
       clear hx Hpl
       go_wp2_with (go_at_call 46;refine CLd.out.mono ?_;rintro e w5 ⟨rfl,rfl⟩)
       go_loopw [9,33] (fun v i wi=>∃ k:Nat,k ≤ 4∧i=.int .i64 k∧OwIP 92 wi w2.heap.size (fun k=>¬ BF b H N.n k) v (putTo N.n lv rs d ++ secIts d rs k)∧Below w2.heap.size w2 wi) (fun _ i _=>4 - (intOf i).toNat)
       case atStart=>exact ⟨0,Nat.zero_le _,rfl,by rw [show secIts d rs 0=[] from rfl,List.append_nil];exact Ho.out,Hbr.out⟩
       case round =>
        rename World=>wi
        obtain ⟨k,hk4,rfl,ho,hbi⟩:=hrel
        by_cases hlk:k < 4
        ·have i0:(0:Int) ≤ (k:Int):=by omega
         have i1:(k:Int) < 4:=by omega
         have q2:IntKind.i64.wrap (2 + (k:Int))=((2 + k:Nat):Int):=by rw [IntKind.wrap_i64];omega
         have hP:=HP.out wi hbi
         have hkr:k < rs.length:=by rw [H4.out];exact hlk
         have hcl:=hP.cell k hkr
         have hl32:=hP.len k hkr
         have hbb:=HPb.out k hkr
         have hrd:=hP.rd k hkr
         have B2':=below1 wi (.cells #[.int .i64 (d:Int),.int .i64 ((2 + k:Nat):Int),.slice (some ⟨bk k,0,none⟩) 32 32] 92)
         have ho2:=Lib.hid (ho.below B2')
         have hb2':bk k < w2.heap.size:=hbb.2
         have HSr:=Lib.hid (fun (ob:Option Nat) (hob:ob=u9.ownBlock)=>src_oneP (w:=wi.alloc (.cells #[.int .i64 (d:Int),.int .i64 ((2 + k:Nat):Int),.slice (some ⟨bk k,0,none⟩) 32 32] 92)) (P:=fun k=>¬ BF b H N.n k) (g:=wi.heap.size) (ob:=ob) (x:=secIt d rs k) (D:=some ⟨bk k,0,none⟩) (c:=32) (by
          show _=some (Obj.cells (List.toArray [.int .i64 (d:Int),.int .i64 ((2 + k:Nat):Int),.slice (some ⟨bk k,0,none⟩) (rs.getD k []).length 32]) _ _)
          rw [hl32];exact heap_alloc_new wi _) ((hrd.below B2' (Nat.le_refl _)).more B2'.size) (by show (rs.getD k []).length ≤ 32;rw [hl32];exact Nat.le_refl _) (fun h0 a ha=>by
          injection ha with ha
          subst ha
          refine ⟨fun e=>?_,Hoff.out _ (by show w.heap.size ≤ bk k;have:=Hz1.out;omega)⟩
          rw [hob] at e
          have h3:w2.heap.size ≤ bk k:=(ho.lt (bk k) e.symm).1
          omega))
         have BB2:=Lib.hid (hbi.alloc hbi.size (.cells #[.int .i64 (d:Int),.int .i64 ((2 + k:Nat):Int),.slice (some ⟨bk k,0,none⟩) 32 32] 92))
         have hzz:=Lib.hid BB2.out.size
         have Hss:=Lib.hid (show putTo N.n lv rs d ++ secIts d rs (k + 1)=putTo N.n lv rs d ++ secIts d rs k ++ [secIt d rs k] by rw [secIts_succ,List.append_assoc])
         have Hsl:=Lib.hid (show (putTo N.n lv rs d ++ secIts d rs k).length + 1 ≤ 1000000 by rw [List.length_append,secIts_len];omega)
         have Hlt:=Lib.hid ho.lt
         clear ho hP hl32 hbb hrd B2' hbi hkr hb2'
         go_wp2_with (
          (with_reducible refine (id ?_:wpList _ _ _ (⟨some 45,_,_,_,_,_⟩::_) _ _));refine wpList_append_P _ _ (by rfl) _ _ _ (by rfl) w2.heap.size 92 Tryz.underlying41 infoI u9 _ (by rfl) ho2.out (some ⟨wi.heap.size,0,none⟩) 1 1 _ (by rfl) (by rfl) (HSr.out _ rfl) Hsl.out hzz.out ?_
          intro v4 w4 O4 g4 _)
         go_roundw
         case rel =>
          refine ⟨k + 1,by omega,by go_num,?_,?_⟩
          ·rw [Hss.out];exact O4
          ·exact BB2.out.grown g4 BB2.out.size (fun k e=>(Hlt.out k e).1)
         case measure=>simp [intOf];omega
        ·obtain rfl:k=4:=by omega
         have Ho2:=Lib.hid (show OwIP 92 wi w2.heap.size (fun k=>¬ BF b H N.n k) u9 (putTo N.n lv rs (d + 1)) by rw [Hy.out,H4.out];exact ho)
         have Hbi:=Lib.hid hbi
         clear ho hbi
         go_wp2
         go_roundw
         case rel=>exact ⟨d + 1,by omega,by go_num,Ho2.out,Hbi.out⟩
         case measure=>simp [intOf];omega
    ·obtain rfl:d=N.n:=by omega
     obtain ⟨A2,c2,rfl,_,hm⟩:=Ho.out.rd (F:=BF b H N.n) (fun k hk=>Hoff.out k (by have:=B2.out.size;omega)) (fun _ h=>h)
     have CS:=Lib.hid (CS.out wr Hbw.out _ A2 c2 hm (put_64 _ _ _ _ (by omega) (by rw [H4.out];omega)))
     clear hm Ho
     go_wp2_with fail
     refine CS.out.mono ?_
     rintro e w5 ⟨rfl,ht⟩
     have Ht:=Lib.hid (BC.below Hbw.out ht)
     clear ht
     go_wp2
     go_ret
     exact ⟨by rw [HE.out];rfl,by rw [HE.out];exact Ht.out⟩
end Go.Proofs.YtenkkdnepmoihaaGreatDoor
end
