/- Texts put together: StpOne, KsKit, LogApply, LogPut. -/
import Derived.Test.YtldfoadildaljaaGreatWmba
import Derived.Test.YtldfoadildaljaaGreatWmaj
import Derived.Test.YtldfoadildaljaaGreatWmaz
import Derived.Test.YtldfoadildaljaaGreatWmbc
import Derived.Test.YtldfoadildaljaaGreatWmap
import Derived.Test.YtldfoadildaljaaGreatWmal
import Derived.Test.YtldfoadildaljaaGreatWmar
section
set_option maxRecDepth 20000
set_option linter.unusedVariables false
set_option linter.unusedSimpArgs false
namespace Go.Proofs.YtldfoadildaljaaGreat
open Go.RowKit
theorem solveB_len {N:Nat} {p q:List UInt8} {rs L:List (List UInt8)} (h:solveB N p q rs=some L):L.length=rs.length:=by
 unfold solveB at h
 split at h
 ·injection h with h
  subst h
  rcases hm:missB rs with _ | ⟨i,_ | ⟨j,ms⟩⟩ <;> simp only [toldB,List.length_set,filledB_len]
 ·cases h
theorem roTake_len {l d c r:Int} {xs L:List (List UInt8)} (h:roTake l d c r xs=some L):L.length=roW l d:=by
 unfold roTake at h
 split at h
 ·rw [solveB_len h,dataL_len]
 ·cases h
theorem srdL_len {N:Bch} {lv:List Bool} {l d c r:Int} (h:srdE N lv l d c r=0):(srdL N lv l d c r).length=roW l d:=by
 unfold srdL
 rw [if_pos h]
 unfold srdE at h
 split at h
 ·cases h
 ·split at h
  ·cases h
  ·split at h
   ·next hs =>
    obtain ⟨L,hL⟩:=Option.isSome_iff_exists.1 hs
    rw [hL];exact roTake_len hL
   ·cases h
theorem nums_at {l d c n:Int} (h:plOfOk l d c n=true):plOk l d c (plOfR l d c n)=true∧kOf l d c n < roW l d∧(plNums l d c (plOfR l d c n)).length=roW l d∧(plNums l d c (plOfR l d c n)).getD (kOf l d c n) 0=n∧(∀ j,j < kOf l d c n→(plNums l d c (plOfR l d c n)).getD j 0 ≠ n)∧plOfD l d c n=plD l d c (plOfR l d c n) (kOf l d c n:Nat):=by
 have hg:=plOfOk_ok h
 obtain ⟨h0,h1⟩:=plOfOk_yes h
 obtain ⟨r0,r1,k0,k1,_,hN⟩:=of_row hg h0 h1
 obtain ⟨_,hr,hd,hk⟩:=of_yes hg h0 h1
 have hT:=(plDok_yes hk).1
 have hw:gWid l d c=d - (l - 4):=gWid_yes hg
 have hW:((roW l d:Nat):Int)=d - (l - 4):=by unfold roW;omega
 have hK:((kOf l d c n:Nat):Int)=n / c % (d - (l - 4)):=by unfold kOf;omega
 rw [hr]
 refine ⟨hT,by omega,by rw [plNums_len hT,hw];unfold roW;rfl,?_,fun j hj e=>?_,by rw [hd,hK]⟩
 ·rw [plNums_get hT (by omega),hK];exact hN
 ·rw [plNums_get hT (by omega)] at e
  have:=(num_row (plDok_mk (k:=(j:Int)) hT (by omega) (by omega))).2.2.2
  rw [e] at this
  omega
def StpO (w:World) (E:Int) (bs:List UInt8) (e:Ending) (w':World):Prop:=∃ A c,e=.returned (.tuple #[.slice A bs.length c,.int .i64 E])∧RdBF w.heap.size w' A bs∧Below w.heap.size w w'
theorem stpO_none {w w':World} {E:Int} {bs:List UInt8} {e:Ending} (he:e=.returned (.tuple #[.slice none 0 0,.int .i64 E])) (hb:Below w.heap.size w w') (hn:bs=[]):StpO w E bs e w':=by
 subst hn
 exact ⟨none,0,he,⟨by simp,fun h=>by simp at h⟩,hb⟩
theorem soneE_no {N:Bch} {lv:List Bool} {l d c n:Int} (h:plOfOk l d c n=false):soneE N lv l d c n=4∧soneB N lv l d c n=[]:=by
 have e:soneE N lv l d c n=4:=if_pos h
 exact ⟨e,by unfold soneB;rw [if_pos (by rw [e];decide)]⟩
theorem soneE_own {N:Bch} {lv:List Bool} {l d c n:Int} (h:plOfOk l d c n=true) (hs:srvD N lv (plOfD l d c n).toNat=true):soneE N lv l d c n=(if N.down=true then 6 else 0)∧soneB N lv l d c n=if N.down=true then [] else secAt (N.D (plOfD l d c n).toNat).now (36 + (plOfR l d c n).toNat):=by
 have e:soneE N lv l d c n=(if N.down=true then 6 else 0):=by unfold soneE;rw [if_neg (by simp [h]),if_pos hs]
 refine ⟨e,?_⟩
 unfold soneB
 rw [e]
 cases hd:N.down with
 | true=>rfl
 | false=>simp [hs]
theorem soneE_row {N:Bch} {lv:List Bool} {l d c n:Int} (h:plOfOk l d c n=true) (hs:srvD N lv (plOfD l d c n).toNat=false):soneE N lv l d c n=srdE N lv l d c (plOfR l d c n)∧soneB N lv l d c n=if srdE N lv l d c (plOfR l d c n) ≠ 0 then [] else (srdL N lv l d c (plOfR l d c n)).getD (kOf l d c n) []:=by
 have e:soneE N lv l d c n=srdE N lv l d c (plOfR l d c n):=by unfold soneE;rw [if_neg (by simp [h]),if_neg (by simp [hs])]
 refine ⟨e,?_⟩
 unfold soneB
 rw [e]
 simp [hs]
set_option maxHeartbeats 3200000 in
theorem stpOne_any (B b:Nat) (H:BH) (N:Bch) (w:World) (h:BAt w B b H N) (lv:List Bool) (A:Option Addr) (m cp:Nat) (hm:m=lv.length) (hv:RdO w w.heap.size A lv) (l d c n:Int)
    (hl:-9223372036854775808 ≤ l∧l ≤ 9223372036854775807) (hd:-9223372036854775808 ≤ d∧d ≤ 9223372036854775807) (hc:-9223372036854775808 ≤ c∧c ≤ 9223372036854775807) (hn:-9223372036854775808 ≤ n∧n ≤ 9223372036854775807) :
    Calls Tryz.prog 61 #[.pointer (some ⟨b,0,none⟩),.slice A m cp,.agg #[.int .i64 l,.int .i64 d,.int .i64 c],.int .i64 n] w (StpO w (soneE N lv l d c n) (soneB N lv l d c n)):=by
 subst hm
 have G:=gat_new w l d c 25 (0,0)
 have CO:=Lib.hid (fun W=>of_any l d c n W hl hd hc hn)
 cases hok:plOfOk l d c n with
 | false =>
   rw [hok] at CO
   have HE:=Lib.hid (soneE_no (N:=N) (lv:=lv) hok)
   generalize soneE N lv l d c n=E at HE ⊢
   generalize soneB N lv l d c n=bs at HE ⊢
   clear hok h hv
   go_enter Tryz.func61,Tryz.ntmps61
   go_wp2_with fail
   (with_reducible refine (CO.out _).mono ?_);rintro e w1 ⟨rfl,hb⟩
   have F:=(below1 w _).trans (hb.mono (by simp))
   clear hb G
   go_wp2_with fail
   go_ret2
   exact stpO_none (by rw [HE.out.1];rfl) F HE.out.2
 | true =>
   rw [hok] at CO
   obtain ⟨hT,hk,hnl,hat,hfst,hD⟩:=nums_at hok
   have hg:=plOfOk_ok hok
   obtain ⟨_,⟨d0,d1⟩,⟨r0,r1⟩,_⟩:=of_back hg (plOfOk_yes hok).1 (plOfOk_yes hok).2
   have hd8:=gOk_bd hg
   have HEo:=Lib.hid (soneE_own (N:=N) (lv:=lv) hok)
   have HEr:=Lib.hid (soneE_row (N:=N) (lv:=lv) hok)
   have CRd:=Lib.hid (fun W (hb:Below w.heap.size w W) (r:Int) (hr:-9223372036854775808 ≤ r∧r ≤ 9223372036854775807)=>stpRead_any B b H N W (h.below hb) lv A lv.length cp rfl (hv.keep hb.size fun p hp=>hb.cell hp) l d c r hl hd hc hr)
   have CNm:=Lib.hid (fun W=>numbers_any l d c (plOfR l d c n) W hl hd hc (by omega))
   have HLn:=Lib.hid (@srdL_len N lv l d c (plOfR l d c n))
   generalize soneE N lv l d c n=E at HEo HEr ⊢
   generalize soneB N lv l d c n=bs at HEo HEr ⊢
   obtain ⟨di,hdi⟩:=Int.eq_ofNat_of_zero_le d0
   obtain ⟨ρ,hρ⟩:=Int.eq_ofNat_of_zero_le r0
   rw [hρ] at r0 r1 CNm hnl hat hfst HLn HEr
   rw [hdi] at d0 d1 HEr
   rw [hdi,hρ] at CO HEo
   have e1:((di:Int)).toNat=di:=by omega
   have e2:((ρ:Int)).toNat=ρ:=by omega
   rw [e1] at HEr
   rw [e1,e2] at HEo
   have CS:=Lib.hid (fun W (hb:Below w.heap.size w W)=>stpServes_any B b H N W (h.below hb) lv A lv.length cp rfl (hv.keep hb.size fun p hp=>hb.cell hp) di (by omega))
   have CR:=Lib.hid (fun W (hb:Below w.heap.size w W)=>bch_read_any B b H N W (h.below hb) (di:Int) (36 + (ρ:Int)) ⟨by omega,by omega⟩ ⟨by omega,by omega⟩)
   have HRu:=Lib.hid (fun (hs:srvD N lv di=true) (hdn:N.down=false)=>Bch.read_ok (N:=N) (d:=di) (k:=36 + ρ) (srvD_yes hs).1 (by omega) (srvD_yes hs).2.2 hdn)
   have HRd:=Lib.hid (fun (hs:srvD N lv di=true) (hdn:N.down=true)=>show N.readE (di:Int) (36 + (ρ:Int))=6∧N.read (di:Int) (36 + (ρ:Int))=[] by
    have hpk:N.pickE (di:Int)=0:=Bch.pickE_ok (by omega) (by have:=(srvD_yes hs).1;omega)
    have e:N.readE (di:Int) (36 + (ρ:Int))=6:=by rw [(Bch.readE_pow _ (by rw [Bch.powE_down hpk hdn];decide)).1,Bch.powE_down hpk hdn]
    exact ⟨e,by unfold Bch.read;rw [if_pos (by rw [e];decide)]⟩)
   have hz:(w.alloc (.cells #[.int .i64 l,.int .i64 d,.int .i64 c] 25)).heap.size=w.heap.size + 1:=by simp
   have Hat:=Lib.hid hat
   have Hfst:=Lib.hid hfst
   have Hnl:=Lib.hid hnl
   clear hok h hv hdi hρ hT hg hD hat hfst hnl
   unfold ptr at CR
   cases hs:srvD N lv di with
   | true =>
     rw [hs] at CS
     have HE:=Lib.hid (HEo.out hs)
     have HX:=Lib.hid (show ∃ E' bs',N.readE (di:Int) (36 + (ρ:Int))=E'∧N.read (di:Int) (36 + (ρ:Int))=bs'∧E=E'∧bs=bs' by
      refine ⟨_,_,rfl,rfl,?_,?_⟩
      ·rw [HE.out.1]
       cases hdn:N.down with
       | true=>rw [(HRd.out hs hdn).1];rfl
       | false=>rw [← show ((36 + ρ:Nat):Int)=36 + (ρ:Int) by omega,(HRu.out hs hdn).1];rfl
      ·rw [HE.out.2]
       cases hdn:N.down with
       | true=>rw [(HRd.out hs hdn).2];rfl
       | false=>rw [← show ((36 + ρ:Nat):Int)=36 + (ρ:Int) by omega,(HRu.out hs hdn).2];rfl)
     obtain ⟨E',bs',hE',hbs',h5,h6⟩:=HX.out
     rw [hE',hbs'] at CR
     subst h5 h6
     clear HEo HEr CRd CNm HLn HRu HRd HE HX hE' hbs' Hat Hfst Hnl hk hs
     go_enter Tryz.func61,Tryz.ntmps61
     go_wp2_with fail
     (with_reducible refine (CO.out _).mono ?_);rintro e w1 ⟨rfl,hb⟩
     have F:=(below1 w _).trans (hb.mono (by simp))
     clear hb G
     go_wp2_with fail
     (with_reducible refine (CS.out _ F).mono ?_);rintro e w2 ⟨rfl,rfl⟩
     go_wp2_with fail
     (with_reducible refine (CR.out _ F).mono ?_);rintro e w3 ⟨v,rfl,ho,hb3⟩
     obtain ⟨A1,c1,rfl,_,_⟩:=ho.rd
     have ho2:=ho.rdbf.le F.size
     have F3:=F.trans (hb3.mono F.size)
     clear ho hb3
     go_wp2
     go_ret2
     exact ⟨A1,c1,rfl,ho2,F3⟩
   | false =>
     rw [hs] at CS
     have HE:=HEr.out hs
     have CRd1:=Lib.hid (fun W hb=>CRd.out W hb (ρ:Int) (by omega))
     clear HEo HEr CRd HRu HRd CR hs
     generalize srdE N lv l d c (ρ:Int)=E' at HE CRd1 HLn
     generalize srdL N lv l d c (ρ:Int)=rs at HE CRd1 HLn
     obtain ⟨rfl,hbs⟩:=HE
     by_cases h0:E=0
     ·subst h0
      rw [if_neg (by simp)] at hbs
      have hln:=HLn.out rfl
      have Hbs:=Lib.hid hbs
      generalize plNums l d c (ρ:Int)=zs at CNm Hat Hfst Hnl
      generalize kOf l d c n=k at hk Hat Hfst Hbs
      clear hbs HLn
      go_enter Tryz.func61,Tryz.ntmps61
      go_wp2_with fail
      (with_reducible refine (CO.out _).mono ?_);rintro e w1 ⟨rfl,hb⟩
      have F:=(below1 w _).trans (hb.mono (by simp))
      have gs1:w.heap.size < w1.heap.size:=by have:=hb.size;rw [hz] at this;omega
      obtain ⟨g1,g2,g3⟩:=G.below hb (by rw [hz];omega)
      clear hb
      go_wp2_with fail
      (with_reducible refine (CS.out _ F).mono ?_);rintro e w2 ⟨rfl,rfl⟩
      go_wp2_with fail
      (with_reducible refine (CRd1.out _ F).mono ?_);rintro e w3 ⟨v,rfl,ho,hb3⟩
      have F3:=F.trans (hb3.mono F.size)
      have G3:=GAt.below ⟨g1,g2,g3⟩ hb3 gs1
      have gs3:w.heap.size < w3.heap.size:=by have:=hb3.size;omega
      obtain ⟨gd,cd,rfl,hor⟩:=(ho.le F.size).owr (by omega)
      obtain ⟨_,_,_,xs,hor1,hor2⟩:=hor
      obtain ⟨A1,c1,hx1,hx2,_⟩:=hor2.2 k (by omega)
      have h3:=(hor1.cellAt k (by omega)).trans hx1
      have hgd:=(hor1.lt gd rfl).2
      rw [← Hbs.out] at h3 hx2
      rw [hln] at hor1 ⊢
      clear ho hb3 hor1 hor2 hx1 g1 g2 g3
      obtain ⟨g1,g2,g3⟩:=G3
      go_wp2_with fail
      (with_reducible refine (CNm.out _).mono ?_);rintro e w4 ⟨A4,c4,rfl,hr4,hb4⟩
      have hnl2:=Hnl.out
      have CI:=Lib.hid (index_any A4 zs _ c4 n k w4 rfl hr4 (by omega) Hat.out Hfst.out)
      have F4:=F3.trans (hb4.mono F3.size)
      have h4:=(hb4.cell (p:=⟨gd,k,none⟩) hgd).trans h3
      have hx4:=hx2.keep hb4.size (fun p _ hp=>hb4.cell hp)
      have k0:(0:Int) ≤ (k:Int):=by omega
      have k1:(k:Int) < ((roW l d:Nat):Int):=by omega
      clear hr4 hb4 hnl2 h3 hx2
      go_wp2_with fail
      (with_reducible refine CI.out.mono ?_);rintro e w5 ⟨rfl,rfl⟩
      go_wp2
      go_ret2
      exact ⟨A1,c1,rfl,hx4,F4⟩
     ·rw [if_pos h0] at hbs
      subst hbs
      have e0:(E != 0)=true:=by rw [bne_iff_ne];exact h0
      clear HLn CNm Hat Hfst Hnl h0
      go_enter Tryz.func61,Tryz.ntmps61
      go_wp2_with fail
      (with_reducible refine (CO.out _).mono ?_);rintro e w1 ⟨rfl,hb⟩
      have F:=(below1 w _).trans (hb.mono (by simp))
      have gs1:w.heap.size < w1.heap.size:=by have:=hb.size;rw [hz] at this;omega
      obtain ⟨g1,g2,g3⟩:=G.below hb (by rw [hz];omega)
      clear hb
      go_wp2_with fail
      (with_reducible refine (CS.out _ F).mono ?_);rintro e w2 ⟨rfl,rfl⟩
      go_wp2_with fail
      (with_reducible refine (CRd1.out _ F).mono ?_);rintro e w3 ⟨v,rfl,_,hb3⟩
      have F3:=F.trans (hb3.mono F.size)
      clear hb3
      go_wp2_with fail
      go_ret2
      exact stpO_none rfl F3 rfl
end Go.Proofs.YtldfoadildaljaaGreat
end
section
set_option maxRecDepth 20000
set_option linter.unusedVariables false
set_option linter.unusedSimpArgs false
namespace Go.Proofs.YtldfoadildaljaaGreat
open Go.RowKit
section
variable {W w w':World} {b:Nat} {H:BH} {N:Bch} {K:List (Nat × Obj)} {R:List (Option Addr × List (List UInt8))} {S:List (Option Addr × List UInt8)}
theorem KS.block (h:KS W w b H N K R S) (hb:Below w.heap.size w w') {g:Nat} {o:Obj} (hg:w'.heap[g]?=some o) (hw:w.heap.size ≤ g):KS W w' b H N ((g,o)::K) R S:=by
 have h':=h.below hb
 refine ⟨⟨h'.bp,fun p hp=>?_⟩,h'.rx,h'.sx⟩
 rcases List.mem_cons.1 hp with rfl | hp
 ·exact ⟨hg,fun e=>by have:=h.flt _ e;omega,by have:=h.bp.bel.size;omega⟩
 ·exact h'.kx.kp p hp
theorem KS.rdz (h:KS W w b H N K R S) {A:Option Addr} {zs:List Int} (hz:RdZ W W.heap.size A zs):RdZ w w.heap.size A zs:=(hz.below h.bp.bel (Nat.le_refl _)).keep h.bp.bel.size fun _ _=>rfl
end
section
variable {W w:World} {b:Nat} {H:BH} {N:Bch} {K:List (Nat × Obj)} {R:List (Option Addr × List (List UInt8))} {S:List (Option Addr × List UInt8)} (h:KS W w b H N K R S)
include h
theorem ks_live (n:Int) (d:Nat) (hn:(-9223372036854775808 ≤ n∧n ≤ 9223372036854775807)) (hd:1 ≤ d∧d ≤ 8) :
    Calls Tryz.prog 7 #[.int .i64 n,.int .i64 (d:Int)] w fun e w'=>∃ g,e=.returned (.slice (some ⟨g,0,none⟩) d d)∧KS W w' b H N ((g,Obj.cells ((liveL n d).map Value.bool).toArray 4 (0,0))::K) R S:=by
 refine (live_any n d w hn hd).mono ?_
 rintro e w' ⟨g,rfl,hg,hw,hb⟩
 exact ⟨g,rfl,h.block hb hg hw⟩
end
end Go.Proofs.YtldfoadildaljaaGreat
end
section
set_option maxRecDepth 8000
set_option linter.unusedVariables false
set_option linter.unusedSimpArgs false
namespace Go.Proofs.YtldfoadildaljaaGreat
open Go.RowKit
end Go.Proofs.YtldfoadildaljaaGreat
end
section
set_option maxRecDepth 8000
set_option linter.unusedVariables false
set_option linter.unusedSimpArgs false
namespace Go.Proofs.YtldfoadildaljaaGreat
open Go.RowKit
end Go.Proofs.YtldfoadildaljaaGreat
end
