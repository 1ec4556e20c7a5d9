/- Texts put together: StpSame, StpFlush, StpWrite, StpWakes, LogGet. -/
import Derived.Test.YtldfoadildaljaaGreatWmav
import Derived.Test.YtldfoadildaljaaGreatWmba
import Derived.Test.YtldfoadildaljaaGreatWmap
import Derived.Test.YtldfoadildaljaaGreatWmaz
import Derived.Test.YtldfoadildaljaaGreatWmag
import Derived.Test.YtldfoadildaljaaGreatWmbc
section
set_option maxRecDepth 20000
set_option linter.unusedVariables false
set_option linter.unusedSimpArgs false
namespace Go.Proofs.YtldfoadildaljaaGreat
open Go.RowKit
def datL (zs:List Int) (ρ W:Nat):List (List UInt8):=sectorsB (zs.drop (min ρ zs.length)) W
theorem datL_len (zs:List Int) (ρ W:Nat):(datL zs ρ W).length=W:=sectorsB_len _ _
theorem datL_mem {zs:List Int} {ρ W:Nat}:∀ x ∈ datL zs ρ W,x.length=32:=sectorsB_mem
set_option maxRecDepth 100000 in
set_option maxHeartbeats 1600000 in
theorem data_any {n l c r:Int} {D F W:Nat} (gr:Gr n l c r D F W) (ρ:Nat) (hρ:ρ ≤ 1000) (A:Option Addr) (zs:List Int) (m cp:Nat) (w:World) (hm:m=zs.length) (hcp:zs.length ≤ cp) (hz:RdZ w w.heap.size A zs) :
    Calls Tryz.prog 18 #[.agg #[.int .i64 l,.int .i64 (D:Int),.int .i64 c],.int .i64 (ρ:Int),.slice A m cp] w fun e w'=>∃ v,e=.returned v∧OwV w.heap.size w' v (datL zs ρ W)∧Below w.heap.size w w':=by
 subst hm
 have G:=gat_new w l D c 25 (0,0)
 have HR:=Lib.hid (fun V=>refWidth_any l (D:Int) c V gr.l64 gr.d64 gr.c64)
 rw [gr.wd] at HR
 have hw7:=gr.w7
 have hzl:=hz.1
 obtain ⟨k,hk⟩:∃ k,min ρ zs.length=k:=⟨_,rfl⟩
 have hkl:k ≤ zs.length:=by omega
 have Hmin:Hid ((if zs.length < ρ then (zs.length:Int) else (ρ:Int))=(k:Int)):=Lib.hid (by split <;> omega)
 have HDt:Hid (datL zs ρ W=sectorsB (zs.drop k) W):=Lib.hid (by unfold datL;rw [hk])
 have CS:=Lib.hid (fun V (hb:Below w.heap.size w V)=>sectors_any (if cp=k then A else A.map (·.add k)) (zs.drop k) (zs.length - k) (cp - k) W V (by simp) (((hz.below hb (Nat.le_refl _)).keep hb.size (fun _ _=>rfl)).drop k cp hcp) (by omega))
 have k0:(0:Int) ≤ (k:Int):=by omega
 have k1:(k:Int) ≤ (zs.length:Int):=by omega
 have k2:(k:Int) ≤ (cp:Int):=by omega
 clear gr hz hk
 by_cases hck:cp=k
 ·rw [if_pos hck] at CS
  subst hck
  rw [show zs.length - cp=0 by omega,Nat.sub_self] at CS
  go_enter Tryz.func18,Tryz.ntmps18
  go_wp2_with fail
  have S0:GS w w.heap.size w.heap.size l D c (w.alloc (.cells #[.int .i64 l,.int .i64 (D:Int),.int .i64 c] 25 (0,0))):=⟨G.1,G.2.1,G.2.2,below1 _ _⟩
  have hmin:=Hmin.out
  go_region_held3 (GS w w.heap.size w.heap.size l D c)
   (first | assumption | exact GS.drew ‹_›)
   (first
    |(go_at_call 28;(with_reducible refine (HR.out _).mono ?_);rintro e w3 ⟨rfl,hb3⟩;have S3:=(GS.drew S0).later hb3;dsimp only)
    |(go_at_call 27;(with_reducible refine (CS.out _ S3.2.2.2).mono ?_);rintro e w4 ⟨v,rfl,ho,hb4⟩;have S4:=S3.later hb4;dsimp only))
  all_goals
   have hf:=S3.2.2.2.size
   go_wp2
   go_ret
   exact ⟨_,rfl,by rw [HDt.out];exact ho.le hf,S4.2.2.2⟩
 ·rw [if_neg hck] at CS
  go_enter Tryz.func18,Tryz.ntmps18
  go_wp2_with fail
  have S0:GS w w.heap.size w.heap.size l D c (w.alloc (.cells #[.int .i64 l,.int .i64 (D:Int),.int .i64 c] 25 (0,0))):=⟨G.1,G.2.1,G.2.2,below1 _ _⟩
  have hmin:=Hmin.out
  go_region_held3 (GS w w.heap.size w.heap.size l D c)
   (first | assumption | exact GS.drew ‹_›)
   (first
    |(go_at_call 28;(with_reducible refine (HR.out _).mono ?_);rintro e w3 ⟨rfl,hb3⟩;have S3:=(GS.drew S0).later hb3;dsimp only)
    |(go_at_call 27;(with_reducible refine (CS.out _ S3.2.2.2).mono ?_);rintro e w4 ⟨v,rfl,ho,hb4⟩;have S4:=S3.later hb4;dsimp only))
  all_goals
   have hf:=S3.2.2.2.size
   go_wp2
   go_ret
   exact ⟨_,rfl,by rw [HDt.out];exact ho.le hf,S4.2.2.2⟩
end Go.Proofs.YtldfoadildaljaaGreat
end
section
set_option maxRecDepth 20000
set_option linter.unusedVariables false
set_option linter.unusedSimpArgs false
namespace Go.Proofs.YtldfoadildaljaaGreat
open Go.RowKit
theorem stpFlush_any (W w:World) (b:Nat) (H:BH) (N:Bch) (h:BP W w b H N) (lv:List Bool) (A:Option Addr) (m cp:Nat) (hm:m=lv.length) (hv:RdOX (BF b H N.n) w A lv) :
    Calls Tryz.prog 38 #[.pointer (some ⟨b,0,none⟩),.slice A m cp] w fun e w'=>e=.returned (.int .i64 (sflS N lv).1)∧BC W w w' b H N.n (sflS N lv).2:=by
 have CE:=Lib.hid (eachFl_any W w b H N h lv A m cp hm hv)
 have Hall:Hid (sflS N lv=onTo flF lv N N.n):=rfl
 clear h hv hm
 generalize sflS N lv=rr at Hall ⊢
 rw [← Hall.out] at CE
 clear Hall
 go_enter Tryz.func38,Tryz.ntmps38
 go_wp2_with fail
 (with_reducible refine CE.out.mono ?_);rintro e w1 ⟨rfl,hc⟩
 have Hc:=Lib.hid hc
 clear hc CE
 go_wp2
 go_ret
 exact ⟨rfl,Hc.out⟩
end Go.Proofs.YtldfoadildaljaaGreat
end
section
set_option maxRecDepth 20000
set_option linter.unusedVariables false
set_option linter.unusedSimpArgs false
namespace Go.Proofs.YtldfoadildaljaaGreat
open Go.RowKit
theorem Rq.rdf {lo:Nat} {W:World} {g cap n:Nat} {xs:List Value} {rs:List (List UInt8)} (h:Rq lo W g cap n xs rs) (hn:n ≤ 1000000):RdF lo W (some ⟨g,0,none⟩) rs:=by
 obtain ⟨A,c,e,_,hr⟩:=rdf_own h.row (by rw [h.nn];omega) h.rowsY
 injection e with e _ _
 rw [e];exact hr
def StpW (W w:World) (b:Nat) (H:BH) (n:Nat) (p:Int × Bch) (e:Ending) (w':World):Prop:=e=.returned (.int .i64 p.1)∧BC W w w' b H n p.2
set_option maxHeartbeats 3200000 in
theorem stpWrite_any (W w:World) (b:Nat) (H:BH) (N:Bch) (h:BP W w b H N) (lv:List Bool) (A:Option Addr) (m cp:Nat) (hm:m=lv.length) (hv:RdOX (BF b H N.n) w A lv)
    (A2:Option Addr) (rs:List (List UInt8)) (n2 cp2:Nat) (hn2:rs.length=n2) (h28:n2 ≤ 1000000) (hrd:RdR w w.heap.size A2 rs) (l d c r:Int)
    (hl:-9223372036854775808 ≤ l∧l ≤ 9223372036854775807) (hd:-9223372036854775808 ≤ d∧d ≤ 9223372036854775807) (hc:-9223372036854775808 ≤ c∧c ≤ 9223372036854775807) (hr:-9223372036854775808 ≤ r∧r ≤ 9223372036854775807)
    (hps:∀ i,i < N.n→(N.D i).ps.length ≤ 1999990) (hdn:N.done ≤ 1999990) :
    Calls Tryz.prog 36 #[.pointer (some ⟨b,0,none⟩),.slice A m cp,.agg #[.int .i64 l,.int .i64 d,.int .i64 c],.int .i64 r,.slice A2 n2 cp2] w (StpW W w b H N.n (swrS N lv l d c r rs)):=by
 subst hm
 have Hh:=Lib.hid h
 have hn8:=h.at'.ok.n
 have Hv:=Lib.hid hv
 have B1:=below1 w (.cells #[.int .i64 l,.int .i64 d,.int .i64 c] 25)
 have CF:=Lib.hid (fill_any A2 rs n2 cp2 l d c r (w.alloc (.cells #[.int .i64 l,.int .i64 d,.int .i64 c] 25)) hn2 h28 ((hrd.below B1 (Nat.le_refl _)).more B1.size) hl hd hc hr)
 have HB1:=Lib.hid B1
 have hz1:(w.alloc (.cells #[.int .i64 l,.int .i64 d,.int .i64 c] 25)).heap.size=w.heap.size + 1:=by simp
 have Hflt:=Lib.hid (show ∀ k,BF b H N.n k→k < w.heap.size from fun k hk=>(h.at'.flt hk).2)
 cases hk:fillOk l d c r rs with
 | false =>
   have CF:=CF.out
   rw [roFill_no (by rw [hk];simp)] at CF
   have CF:=Lib.hid CF
   have HE:=Lib.hid (show swrS N lv l d c r rs=(1,N) from if_pos hk)
   generalize swrS N lv l d c r rs=rr at HE ⊢
   clear h hv hrd hk B1 hps hn2
   go_enter Tryz.func36,Tryz.ntmps36
   go_wp2_with fail
   (with_reducible refine CF.out.mono ?_);rintro e w1 ⟨rfl,hb⟩
   have F:=Lib.hid (HB1.out.trans (hb.mono HB1.out.size))
   clear hb
   go_wp2
   go_ret
   exact ⟨by rw [HE.out];rfl,by rw [HE.out];exact BC.below F.out (Hh.out.grow F.out).self⟩
 | true =>
   have hT:=(fillOk_yes hk).1
   have hρ:=(plOk_yes hT).2
   obtain ⟨ρ,rfl⟩:=Int.eq_ofNat_of_zero_le hρ.1
   have R:=ro_of hT
   have hd8:=R.d8
   have H32:=Lib.hid (fun i (hi:i < roD d)=>fill_32 hk hi)
   have HLl:=fillL_len (roD d) (roF l d c ρ) rs
   have CF:=CF.out
   rw [roFill_yes hk] at CF
   have HE:=Lib.hid (show swrS N lv l d c ρ rs=swTo lv (36 + (ρ:Int).toNat) (fillL (roD d) (roF l d c ρ) rs) N (roD d) from if_neg (by simp [hk]))
   have e1:((ρ:Int)).toNat=ρ:=by omega
   rw [e1] at HE
   generalize fillL (roD d) (roF l d c ρ) rs=L at CF H32 HE HLl
   generalize roD d=D at CF H32 HE HLl hd8
   have CF:=Lib.hid CF
   have HLn:=Lib.hid HLl
   generalize swrS N lv l d c ρ rs=rr at HE ⊢
   have CV:=Lib.hid (fun (W1:World) (H1:BH) (N1:Bch) (hp:BP W W1 b H1 N1) (hv1:RdOX (BF b H1 N.n) W1 A lv) (j:Nat) (hj:j ≤ 1000000)=>stpServes_any W.heap.size b H1 N1 W1 hp.at' lv A lv.length cp rfl hv1.rdo j hj)
   have Hps:=Lib.hid hps
   clear h hv hrd hk B1 hT R hps hn2 HLl
   go_enter Tryz.func36,Tryz.ntmps36
   go_wp2_with fail
   (with_reducible refine CF.out.mono ?_);rintro e w1 ⟨g,xs,rfl,Q,hb⟩
   have F:=Lib.hid (HB1.out.trans (hb.mono HB1.out.size))
   have hF1:=F.out.size
   rw [HLn.out] at Q ⊢
   have HR:=Lib.hid (show RdRX (BF b H N.n) w1 (some ⟨g,0,none⟩) L from (Q.rdf (by omega)).rdrx fun k _ hk e=>by have:=Hflt.out k e;rw [hz1] at hk;omega)
   have HP1:=Lib.hid (Hh.out.grow F.out)
   have Hv1:=Lib.hid (Hv.out.below F.out)
   clear hb Q CF
   go_wp2
   go_loopw [27] (fun i wr=>∃ j:Nat,j ≤ D∧i=.int .i64 j∧(swTo lv (36 + ρ) L N j).1=0∧BC W w1 wr b H N.n (swTo lv (36 + ρ) L N j).2) (fun i _=>D - (intOf i).toNat)
   case atStart=>exact ⟨0,Nat.zero_le _,rfl,rfl,HP1.out.self⟩
   case round =>
    obtain ⟨j,hj,rfl,hz,hbc⟩:=hrel
    have Hz:=Lib.hid hz
    have Hbc:=Lib.hid hbc
    obtain ⟨Hj,aj,cj,nj⟩:=hbc
    have Haj:=Lib.hid aj
    have Hcj:=Lib.hid cj
    have Hnj:=Lib.hid nj
    clear hz aj cj nj
    by_cases hlt:j < D
    ·have i0:(0:Int) ≤ (j:Int):=by omega
     have i1:(j:Int) < (D:Int):=by omega
     have Hnn:Hid ((swTo lv (36 + ρ) L N j).2.n=N.n):=swTo_n j
     have hrx:=HR.out.chg Hcj.out (bnew_weak Hnj.out)
     obtain ⟨b',off,A',c',e,h1,h2⟩:=hrx.at (k:=j) (by rw [HLn.out];exact hlt)
     injection e with e
     injection e with e2 e3 _
     subst e2 e3
     rw [Nat.zero_add] at h1
     have h32:=H32.out j hlt
     have HwX:Hid (wrX (36 + ρ) L (swTo lv (36 + ρ) L N j).2 j=((swTo lv (36 + ρ) L N j).2.writeE (j:Int) ((36 + ρ:Nat):Int) (L.getD j []).length,(swTo lv (36 + ρ) L N j).2.write (j:Int) ((36 + ρ:Nat):Int) (L.getD j []))):=rfl
     have h2b:=h2.rdb
     generalize L.getD j []=x at h1 h2b h32 HwX
     rw [h32] at h1 HwX
     have CL1:=Lib.hid (CV.out wr Hj _ Haj.out (Hv1.out.chg Hcj.out (bnew_weak Hnj.out)) j (by omega))
     have HSk:=Lib.hid (fun hs=>swTo_skip (lv:=lv) (a:=36 + ρ) (xs:=L) (N:=N) (i:=j) Hz.out hs)
     have HGo:=Lib.hid (fun hs=>swTo_goes (lv:=lv) (a:=36 + ρ) (xs:=L) (N:=N) (i:=j) Hz.out hs)
     have HSt:=Lib.hid (fun hs=>swTo_stop (lv:=lv) (a:=36 + ρ) (xs:=L) (N:=N) (i:=j + 1) hs D (by omega))
     have CW:=Lib.hid (show Calls Tryz.prog 66 #[.pointer (some ⟨b,0,none⟩),.int .i64 (j:Int),.int .i64 (36 + (ρ:Int)),.slice A' 32 c'] wr fun e w'=>e=.returned (.int .i64 (wrX (36 + ρ) L (swTo lv (36 + ρ) L N j).2 j).1)∧BC W wr w' b Hj (swTo lv (36 + ρ) L N j).2.n (wrX (36 + ρ) L (swTo lv (36 + ρ) L N j).2 j).2 by
      rw [HwX.out,show ((36 + ρ:Nat):Int)=36 + (ρ:Int) by omega]
      exact bp_write W wr b Hj _ Haj.out (j:Int) (36 + (ρ:Int)) x A' 32 c' h32.symm ⟨by omega,by omega⟩ ⟨by omega,by omega⟩ h2b
       (fun i hi=>Nat.le_trans (swTo_pend i j) (by rw [Hnn.out] at hi;have:=Hps.out i hi;omega)) (Nat.le_trans (swTo_done j) (by omega)))
     have HX:Hid (∀ w2,BC W wr w2 b Hj (swTo lv (36 + ρ) L N j).2.n (wrX (36 + ρ) L (swTo lv (36 + ρ) L N j).2 j).2→BC W w1 w2 b H N.n (wrX (36 + ρ) L (swTo lv (36 + ρ) L N j).2 j).2):=fun w2 h2=>by
      rw [Hnn.out] at h2
      exact h2.seq Hcj.out Hnj.out
     clear hrx h2 h2b h32 HwX CV
     cases hs:srvD (swTo lv (36 + ρ) L N j).2 lv j with
     | false =>
       rw [hs] at CL1
       have HS:=Lib.hid (HSk.out hs)
       clear hs HSk HGo HSt CW HX
       go_wp2_with fail
       (with_reducible refine CL1.out.mono ?_);rintro e w2 ⟨rfl,rfl⟩
       go_wp2
       go_roundw
       case rel=>exact ⟨j + 1,by omega,by go_num,by rw [HS.out];exact Hz.out,by rw [HS.out];exact Hbc.out⟩
       case measure=>simp [intOf];omega
     | true =>
       rw [hs] at CL1
       have HG:=Lib.hid (HGo.out hs)
       clear hs HSk HGo
       generalize wrX (36 + ρ) L (swTo lv (36 + ρ) L N j).2 j=r at CW HX HG
       obtain ⟨e,Nx⟩:=r
       by_cases h0:e=0
       ·rw [h0] at CW HG
        clear h0 HSt
        go_wp2_with fail
        (with_reducible refine CL1.out.mono ?_);rintro e w2 ⟨rfl,rfl⟩
        go_wp2_with fail
        (with_reducible refine CW.out.mono ?_);rintro e w3 ⟨rfl,ht⟩
        have Ht:=Lib.hid (HX.out _ ht)
        clear ht
        go_wp2
        go_roundw
        case rel=>exact ⟨j + 1,by omega,by go_num,by rw [HG.out],by rw [HG.out];exact Ht.out⟩
        case measure=>simp [intOf];omega
       ·have n0':(e != 0)=true:=by rw [bne_iff_ne];exact h0
        have HS:=Lib.hid (HSt.out (by rw [HG.out];exact h0))
        clear h0 HSt
        go_wp2_with fail
        (with_reducible refine CL1.out.mono ?_);rintro e w2 ⟨rfl,rfl⟩
        go_wp2_with fail
        (with_reducible refine CW.out.mono ?_);rintro e w3 ⟨rfl,ht⟩
        have Ht:=Lib.hid (HX.out _ ht)
        clear ht
        go_wp2
        go_ret
        exact ⟨by rw [HE.out,HS.out,HG.out];rfl,by rw [HE.out,HS.out,HG.out];exact BC.below F.out Ht.out⟩
    ·obtain rfl:j=D:=by omega
     go_wp2
     go_ret
     exact ⟨by rw [HE.out,Hz.out];rfl,by rw [HE.out];exact BC.below F.out Hbc.out⟩
end Go.Proofs.YtldfoadildaljaaGreat
end
section
set_option maxRecDepth 20000
set_option linter.unusedVariables false
set_option linter.unusedSimpArgs false
namespace Go.Proofs.YtldfoadildaljaaGreat
open Go.RowKit
theorem zl32:(zeroL 32).length=32:=rfl
theorem rdb_zc (w:World):RdB (w.alloc (.cells (zcells 32) 5)) (w.alloc (.cells (zcells 32) 5)).heap.size (some ⟨w.heap.size,0,none⟩) (zeroL 32) :=
 rdb_block (hp_new _ _ _ rfl) (by simp) (by rw [zl32];omega) (fun k hk=>by
  rw [zl32] at hk
  rw [zcells_get 32 k hk]
  unfold zeroL
  rw [List.getD_eq_getElem?_getD,List.getElem?_replicate,if_pos hk]
  rfl)
end Go.Proofs.YtldfoadildaljaaGreat
end
section
set_option maxRecDepth 8000
set_option linter.unusedVariables false
set_option linter.unusedSimpArgs false
namespace Go.Proofs.YtldfoadildaljaaGreat
open Go.RowKit
section
variable {w V V':World} {s:Int} {A:Option Addr} {c:Nat} {l:List It}
end
end Go.Proofs.YtldfoadildaljaaGreat
end
