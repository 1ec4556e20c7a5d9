/- Texts put together: StpSmall, StpRead. -/
import Derived.Test.YtldfoadildaljaaGreatWmav
import Derived.Test.YtldfoadildaljaaGreatWmay
import Derived.Test.YtldfoadildaljaaGreatWmad
import Derived.Test.YtldfoadildaljaaGreatWmaq
import Derived.Test.YtldfoadildaljaaGreatWmap
section
set_option maxRecDepth 20000
set_option linter.unusedVariables false
set_option linter.unusedSimpArgs false
namespace Go.Proofs.YtldfoadildaljaaGreat
open Go.RowKit
theorem stpLive_any (B b:Nat) (H:BH) (N:Bch) (w:World) (h:BAt w B b H N) (lv:List Bool) (A:Option Addr) (n c:Nat) (hn:n=lv.length) (hv:RdO w w.heap.size A lv) (j:Nat) (h1:j ≤ 1000000) :
    Calls Tryz.prog 88 #[.pointer (some ⟨b,0,none⟩),.slice A n c,.int .i64 (j:Int)] w fun e w'=>e=.returned (.bool (livD N lv j))∧w'=w:=by
 rw [show livD N lv j=alvD N.n lv (j:Int) from (alvD_nat N.n lv j).symm]
 exact alvIs_any B b H N w h lv A n c hn hv j (by omega) (by omega)
theorem alvS_nat (N:Bch) (lv:List Bool) (j:Nat):alvS N lv (j:Int)=srvD N lv j:=by
 unfold alvS srvD livD;rw [alvD_nat,Int.toNat_natCast]
theorem stpServes_any (B b:Nat) (H:BH) (N:Bch) (w:World) (h:BAt w B b H N) (lv:List Bool) (A:Option Addr) (n c:Nat) (hn:n=lv.length) (hv:RdO w w.heap.size A lv) (j:Nat) (h1:j ≤ 1000000) :
    Calls Tryz.prog 65 #[.pointer (some ⟨b,0,none⟩),.slice A n c,.int .i64 (j:Int)] w fun e w'=>e=.returned (.bool (srvD N lv j))∧w'=w:=by
 rw [← alvS_nat]
 exact alvServes_any B b H N w h lv A n c hn hv j (by omega) (by omega)
theorem index_any (A:Option Addr) (zs:List Int) (n cp:Nat) (x:Int) (k:Nat) (w:World) (hn:zs.length=n) (hr:RdJ w w.heap.size A zs) (hk:k < zs.length) (hx:zs.getD k 0=x) (ho:∀ j,j < k→zs.getD j 0 ≠ x) :
    Calls Tryz.prog 81 #[.slice A n cp,.int .i64 x] w fun e w'=>e=.returned (.int .i64 (k:Int))∧w'=w:=by
 subst hn
 have hl:=hr.1
 obtain ⟨b,off,rfl,hbb,hc⟩:=hr.2 (by omega)
 have Hx:=Lib.hid hx
 have Ho:=Lib.hid ho
 have Hc:=Lib.hid hc
 clear hx ho hc
 go_enter Tryz.func81,Tryz.ntmps81
 go_wp2
 go_loopw [8] (fun i wr=>∃ j:Nat,j ≤ k∧i=.int .i64 j∧wr=w) (fun i _=>zs.length - (intOf i).toNat)
 case atStart=>exact ⟨0,Nat.zero_le _,rfl,rfl⟩
 case round =>
  obtain ⟨j,hj,rfl,rfl⟩:=hrel
  have i0:(0:Int) ≤ (j:Int):=by omega
  have i1:(j:Int) < (zs.length:Int):=by omega
  have h1:=Hc.out j (by omega)
  by_cases e:j=k
  ·subst e
   rw [Hx.out] at h1
   have e1:(x == x)=true:=by simp
   go_wp2
   go_ret
   exact ⟨rfl,rfl⟩
  ·have hne:=Ho.out j (by omega)
   generalize zs.getD j 0=y at h1 hne
   have e1:(x == y)=false:=by rw [beq_eq_false_iff_ne];exact fun e=>hne e.symm
   go_wp2
   go_roundw
   case rel=>exact ⟨j + 1,by omega,by go_num,trivial⟩
   case measure=>simp [intOf];omega
end Go.Proofs.YtldfoadildaljaaGreat
end
section
set_option maxRecDepth 20000
set_option linter.unusedVariables false
set_option linter.unusedSimpArgs false
namespace Go.Proofs.YtldfoadildaljaaGreat
open Go.RowKit
set_option maxHeartbeats 800000 in
theorem stpRead_bad (b:Nat) (lv:List Bool) (A:Option Addr) (n cp:Nat) (l d c r:Int) (w:World) (hT:plOk l d c r=false)
    (hl:-9223372036854775808 ≤ l∧l ≤ 9223372036854775807) (hd:-9223372036854775808 ≤ d∧d ≤ 9223372036854775807) (hc:-9223372036854775808 ≤ c∧c ≤ 9223372036854775807) (hr:-9223372036854775808 ≤ r∧r ≤ 9223372036854775807) :
    Calls Tryz.prog 80 #[.pointer (some ⟨b,0,none⟩),.slice A n cp,.agg #[.int .i64 l,.int .i64 d,.int .i64 c],.int .i64 r] w fun e w'=>e=.returned (.tuple #[.slice none 0 0,.int .i64 1])∧Below w.heap.size w w':=by
 have G:=gat_new w l d c 25 (0,0)
 have CK:=Lib.hid (fun W=>check_any l d c W hl hd hc)
 have e1:(gOk l d c=false)∨(gOk l d c=true∧((r < 0)∨(¬ r < 0∧16 ≤ r))):=by
  cases hg:gOk l d c with
  | false=>exact .inl rfl
  | true =>
    refine .inr ⟨rfl,?_⟩
    by_cases h0:r < 0
    ·exact .inl h0
    ·refine .inr ⟨h0,?_⟩
     by_cases h1:16 ≤ r
     ·exact h1
     ·rw [plOk_mk hg (by omega) (by omega)] at hT;cases hT
 clear hT
 rcases e1 with hg | ⟨hg,h0 | ⟨h0,h1⟩⟩
 ·have CK:=Lib.hid (fun W=>check_no l d c W (Lib.hid hg) hl hd hc)
  clear hg
  go_enter Tryz.func80,Tryz.ntmps80
  go_wp2_with fail
  (with_reducible refine (CK.out _).mono ?_);rintro e w1 ⟨rfl,hb⟩
  have F:=(below1 w _).trans (hb.mono (by simp))
  clear hb
  go_wp2_with fail
  go_ret2
  exact ⟨rfl,F⟩
 ·have CK:=Lib.hid (fun W=>check_yes l d c W (Lib.hid hg) hl hd hc)
  clear hg
  go_enter Tryz.func80,Tryz.ntmps80
  go_wp2_with fail
  (with_reducible refine (CK.out _).mono ?_);rintro e w1 ⟨rfl,hb⟩
  have F:=(below1 w _).trans (hb.mono (by simp))
  clear hb
  go_wp2_with fail
  go_ret2
  exact ⟨rfl,F⟩
 ·have CK:=Lib.hid (fun W=>check_yes l d c W (Lib.hid hg) hl hd hc)
  clear hg
  go_enter Tryz.func80,Tryz.ntmps80
  go_wp2_with fail
  (with_reducible refine (CK.out _).mono ?_);rintro e w1 ⟨rfl,hb⟩
  have F:=(below1 w _).trans (hb.mono (by simp))
  clear hb
  go_wp2_with fail
  go_ret2
  exact ⟨rfl,F⟩
theorem OwR.owv {w:World} {lo g n cap:Nat} {rs:List (List UInt8)} (h:OwR w lo g n cap rs):OwV lo w (.slice (some ⟨g,0,none⟩) n cap) rs:=by
 obtain ⟨hn,_,_,xs,h1,h2⟩:=h
 exact ⟨xs,by rw [hn];exact h1,h2⟩
def StpR (w:World) (E:Int) (rs:List (List UInt8)) (e:Ending) (w':World):Prop:=∃ v,e=.returned (.tuple #[v,.int .i64 E])∧OwV w.heap.size w' v rs∧Below w.heap.size w w'
set_option maxHeartbeats 3200000 in
theorem stpRead_good (B b:Nat) (H:BH) (N:Bch) (w:World) (h:BAt w B b H N) (lv:List Bool) (A:Option Addr) (n cp:Nat) (hn:n=lv.length) (hv:RdO w w.heap.size A lv) (l d c:Int) (ρ:Nat) (hT:plOk l d c (ρ:Int)=true)
    (hl:-9223372036854775808 ≤ l∧l ≤ 9223372036854775807) (hd:-9223372036854775808 ≤ d∧d ≤ 9223372036854775807) (hc:-9223372036854775808 ≤ c∧c ≤ 9223372036854775807) :
    Calls Tryz.prog 80 #[.pointer (some ⟨b,0,none⟩),.slice A n cp,.agg #[.int .i64 l,.int .i64 d,.int .i64 c],.int .i64 (ρ:Int)] w (StpR w (srdE N lv l d c (ρ:Int)) (srdL N lv l d c (ρ:Int))):=by
 subst hn
 have G:=gat_new w l d c 25 (0,0)
 have CK:=Lib.hid (fun W=>check_yes l d c W (Lib.hid (plOk_yes hT).1) hl hd hc)
 have R:=ro_of hT
 have hd8:=R.d8;have hd3:=R.d3;have hdd:=R.dd
 have hρ:=(plOk_yes hT).2
 obtain ⟨D,hD⟩:∃ D,roD d=D:=⟨_,rfl⟩
 have CT:=Lib.hid (fun W (A2:Option Addr) (cp2:Nat) (xs:List (List UInt8)) (hx:xs.length=D) (hr:RdR W W.heap.size A2 xs)=>take_any A2 xs D cp2 l d c (ρ:Int) W hx (by omega) hr hl hd hc (by omega))
 have HEl:=Lib.hid (fun (hd':N.down=false∨anyS N lv (roD d)=false) (ht:roTake l d c (ρ:Int) (ssL N lv (36 + (ρ:Int).toNat) (roD d))=none)=>srdE_lost hT hd' ht)
 have HEo:=Lib.hid (fun rs (hd':N.down=false∨anyS N lv (roD d)=false) (ht:roTake l d c (ρ:Int) (ssL N lv (36 + (ρ:Int).toNat) (roD d))=some rs)=>srdE_ok hT hd' ht)
 have HEd:=Lib.hid (fun (hdn:N.down=true) (ha:anyS N lv (roD d)=true)=>srdE_down hT hdn ha)
 have Htn:(ρ:Int).toNat=ρ:=by omega
 rw [hD,Htn] at HEl HEo
 rw [hD] at HEd hd8 hd3 hdd
 generalize srdE N lv l d c (ρ:Int)=E at HEl HEo HEd ⊢
 generalize srdL N lv l d c (ρ:Int)=L at HEl HEo HEd ⊢
 have Hss:Hid (ssL N lv (36 + ρ) D=ssTo N lv (36 + ρ) D D):=rfl
 have Hs0:=Lib.hid (ssTo_zero N lv (36 + ρ) D)
 have Hsk:=Lib.hid (fun k=>@ssTo_skip N lv (36 + ρ) D k)
 have Hsg:=Lib.hid (fun k=>@ssTo_goes N lv (36 + ρ) D k)
 have Hlen:=Lib.hid (ssL_len N lv (36 + ρ) D)
 have CS:=Lib.hid (fun W (hb:Below w.heap.size w W) (j:Nat) (hj:j ≤ 1000000)=>stpServes_any B b H N W (h.below hb) lv A lv.length cp rfl (hv.keep hb.size fun p hp=>hb.cell hp) j hj)
 have CR:=Lib.hid (fun W (hb:Below w.heap.size w W) (k:Nat) (hk:k ≤ 8)=>bch_read_any B b H N W (h.below hb) (k:Int) (36 + (ρ:Int)) ⟨by omega,by omega⟩ ⟨by omega,by omega⟩)
 have HRu:=Lib.hid (fun (k:Nat) (hs:srvD N lv k=true) (hdn:N.down=false)=>Bch.read_ok (N:=N) (d:=k) (k:=36 + ρ) (srvD_yes hs).1 (by omega) (srvD_yes hs).2.2 hdn)
 have HRd:=Lib.hid (fun (k:Nat) (hs:srvD N lv k=true) (hdn:N.down=true)=>show N.readE (k:Int) (36 + (ρ:Int))=6 by
  have hpk:N.pickE (k:Int)=0:=Bch.pickE_ok (by omega) (by have:=(srvD_yes hs).1;omega)
  rw [(Bch.readE_pow _ (by rw [Bch.powE_down hpk hdn];decide)).1,Bch.powE_down hpk hdn])
 have HL32:=Lib.hid (fun (k:Nat) (hs:srvD N lv k=true)=>show (secAt (N.D k).now (36 + ρ)).length=32 from secAt_len (by rw [(h.dsk k (srvD_yes hs).1).ok.now];omega))
 have Hany:=Lib.hid (fun (k:Nat) (hk:k < D) (hs:srvD N lv k=true)=>anyS_yes (N:=N) (lv:=lv) hk hs)
 have Hnone:=Lib.hid (fun (hk:∀ k,k < D→srvD N lv k=false)=>anyS_no hk)
 clear hT R h hv
 have km:=make_rows D (by omega)
 subst hdd
 clear hD
 unfold ptr at CR
 go_enter Tryz.func80,Tryz.ntmps80
 go_wp2_with fail
 (with_reducible refine (CK.out _).mono ?_);rintro e w1 ⟨rfl,hb⟩
 have F:=(below1 w _).trans (hb.mono (by simp))
 have gs1:w.heap.size < w1.heap.size:=by have:=hb.size;simp at this;omega
 obtain ⟨g1,g2,g3⟩:=G.below hb (by simp)
 clear hb
 go_wp2_with fail
 have Q0:=(rq_new w1 D (by omega)).le (lo':=w.heap.size) (by omega)
 rw [← Hs0.out] at Q0
 have F3:=F.trans ((below1 w1 (.cells (madeCells #[.slice none 0 0] D) 48)).mono F.size)
 have G3:=GAt.below ⟨g1,g2,g3⟩ (below1 w1 (.cells (madeCells #[.slice none 0 0] D) 48)) gs1
 have hgg:w.heap.size < w1.heap.size:=gs1
 generalize w1.heap.size=g at Q0 hgg
 generalize w1.alloc (.cells (madeCells #[.slice none 0 0] D) 48)=w4 at Q0 F3 G3
 clear g1 g2 g3 F
 go_loopw [32] (fun i wr=>∃ (k:Nat) (xs:List Value),k ≤ D∧i=.int .i64 k∧(N.down=true→∀ i,i < k→srvD N lv i=false)∧Rq w.heap.size wr g D D xs (ssTo N lv (36 + ρ) D k)∧GAt wr w.heap.size l D c∧Below w.heap.size w wr) (fun i _=>D - (intOf i).toNat)
 case atStart=>exact ⟨0,_,Nat.zero_le _,rfl,fun _ i hi=>absurd hi (Nat.not_lt_zero _),Q0,G3,F3⟩
 case round =>
  obtain ⟨k,xs,hk,rfl,hno,Q,G4,F4⟩:=hrel
  have Hno:=Lib.hid hno
  clear hno
  by_cases hlt:k < D
  ·have i0:(0:Int) ≤ (k:Int):=by omega
   have i1:(k:Int) < (D:Int):=by omega
   have hglt:=Q.glt.2
   have CS1:=Lib.hid (fun W hb=>CS.out W hb k (by omega))
   cases hs:srvD N lv k with
   | false =>
     rw [hs] at CS1
     have Hs:=Lib.hid (Hsk.out k hs)
     have Hno2:=Lib.hid (show N.down=true→∀ i,i < k + 1→srvD N lv i=false from fun hd i hi=>by
      by_cases e:i=k
      ·rw [e];exact hs
      ·exact Hno.out hd i (by omega))
     clear CK CT HEl HEo HEd Hss Hs0 Hsk Hsg CS CR HRu HRd HL32 Hany Hnone km Q0 F3 G3 hs
     go_wp2_with fail
     (with_reducible refine (CS1.out _ F4).mono ?_);rintro e w5 ⟨rfl,rfl⟩
     go_wp2
     go_roundw
     case rel=>exact ⟨k + 1,_,by omega,by go_num,Hno2.out,by rw [Hs.out];exact Q,G4,F4⟩
     case measure=>simp [intOf];omega
   | true =>
     rw [hs] at CS1
     have CR1:=CR.out _ F4 k (by omega)
     have Ha:=Lib.hid (Hany.out k hlt hs)
     cases hdn:N.down with
     | true =>
       rw [HRd.out k hs hdn] at CR1
       have CR1:=Lib.hid CR1
       have HE:=Lib.hid (HEd.out hdn Ha.out)
       clear CK CT HEl HEo HEd Hss Hs0 Hsk Hsg CS CR HRu HRd HL32 Hany Hnone km Q0 F3 G3 hs hdn
       go_wp2_with fail
       (with_reducible refine (CS1.out _ F4).mono ?_);rintro e w5 ⟨rfl,rfl⟩
       go_wp2_with fail
       (with_reducible refine CR1.out.mono ?_);rintro e w6 ⟨v,rfl,_,hb6⟩
       go_wp2
       go_ret2
       exact ⟨.slice none 0 0,by rw [HE.out.1];rfl,by rw [HE.out.2];exact OwV.nil _ _,F4.trans (hb6.mono F4.size)⟩
     | false =>
       have hr0:=HRu.out k hs hdn
       rw [show ((36 + ρ:Nat):Int)=36 + (ρ:Int) by omega] at hr0
       rw [hr0.1,hr0.2] at CR1
       have CR1:=Lib.hid CR1
       have h32:=HL32.out k hs
       have Hs:=Lib.hid (Hsg.out k hlt hs)
       generalize secAt (N.D k).now (36 + ρ)=row at CR1 h32 Hs
       generalize ssTo N lv (36 + ρ) D k=ms at Q Hs
       clear CK CT HEl HEo HEd Hss Hs0 Hsk Hsg CS CR HRu HRd HL32 Hany Hnone km Q0 F3 G3 hs hdn hr0
       obtain ⟨g1,g2,g3⟩:=G4
       go_wp2_with fail
       (with_reducible refine (CS1.out _ F4).mono ?_);rintro e w5 ⟨rfl,rfl⟩
       go_wp2_with fail
       (with_reducible refine CR1.out.mono ?_);rintro e w6 ⟨v,rfl,ho,hb6⟩
       obtain ⟨A1,c1,rfl,_,_⟩:=ho.rd
       obtain ⟨Ao,co,_,h3,_⟩:=(Q.below hb6).at k hlt
       have hf3:=(Q.below hb6).fz k
       obtain ⟨hset,hgr⟩:=Q.step hb6 k hlt ho
       rw [Hs.out] at hset
       have hs6:=hb6.size
       have G6:=((GAt.below ⟨g1,g2,g3⟩ hb6 (by omega)).grown hgr (by omega) (by intro e;injection e with e;omega))
       have F6:=(F4.trans (hb6.mono F4.size)).setCell (p:=⟨g,k,none⟩) (by show w.heap.size ≤ g;omega) (.slice A1 row.length c1)
       clear Q Hs
       rw [h32] at hset G6 F6
       go_wp2
       go_roundw
       case rel=>exact ⟨k + 1,_,by omega,by go_num,(fun hd=>by cases hd),hset,G6,F6⟩
       case measure=>simp [intOf];omega
  ·obtain rfl:k=D:=by omega
   rw [← Hss.out] at Q
   have hrr:=Q.rdr (by omega)
   have hdd':N.down=false∨anyS N lv k=false:=by
    cases hdn:N.down with
    | false=>exact .inl rfl
    | true=>exact .inr (Hnone.out (Hno.out hdn))
   have CT1:=CT.out wr (some ⟨g,0,none⟩) k _ Hlen.out hrr
   generalize ssL N lv (36 + ρ) k=XS at CT1 HEl HEo
   obtain ⟨o,ho⟩:∃ o,roTake l k c (ρ:Int) XS=o:=⟨_,rfl⟩
   rw [ho] at CT1 HEl HEo
   have CT1:=Lib.hid CT1
   obtain ⟨g1,g2,g3⟩:=G4
   rcases o with _ | L'
   ·have HE:=Lib.hid (HEl.out hdd' rfl)
    clear CK CT HEl HEo HEd Hss Hs0 Hsk Hsg CS CR HRu HRd HL32 Hany Hnone km Q0 F3 G3 hrr ho hdd'
    go_wp2_with fail
    (with_reducible refine CT1.out.mono ?_);rintro e w5 ⟨rfl,hb5⟩
    go_wp2
    go_ret2
    exact ⟨.slice none 0 0,by rw [HE.out.1];rfl,by rw [HE.out.2];exact OwV.nil _ _,F4.trans (hb5.mono F4.size)⟩
   ·have HE:=Lib.hid (HEo.out L' hdd' rfl)
    clear CK CT HEl HEo HEd Hss Hs0 Hsk Hsg CS CR HRu HRd HL32 Hany Hnone km Q0 F3 G3 hrr ho hdd'
    have hF4:=F4.size
    go_wp2_with fail
    (with_reducible refine CT1.out.mono ?_);rintro e w5 ⟨g5,c5,rfl,ho5,hb5⟩
    go_wp2
    go_ret2
    exact ⟨_,by rw [HE.out.1];rfl,by rw [HE.out.2];exact (ho5.le hF4).owv,F4.trans (hb5.mono F4.size)⟩
theorem stpRead_any (B b:Nat) (H:BH) (N:Bch) (w:World) (h:BAt w B b H N) (lv:List Bool) (A:Option Addr) (n cp:Nat) (hn:n=lv.length) (hv:RdO w w.heap.size A lv) (l d c r:Int)
    (hl:-9223372036854775808 ≤ l∧l ≤ 9223372036854775807) (hd:-9223372036854775808 ≤ d∧d ≤ 9223372036854775807) (hc:-9223372036854775808 ≤ c∧c ≤ 9223372036854775807) (hr:-9223372036854775808 ≤ r∧r ≤ 9223372036854775807) :
    Calls Tryz.prog 80 #[.pointer (some ⟨b,0,none⟩),.slice A n cp,.agg #[.int .i64 l,.int .i64 d,.int .i64 c],.int .i64 r] w (StpR w (srdE N lv l d c r) (srdL N lv l d c r)):=by
 cases hT:plOk l d c r with
 | true =>
   obtain ⟨ρ,rfl⟩:∃ ρ:Nat,r=ρ:=⟨r.toNat,by have:=(plOk_yes hT).2;omega⟩
   exact stpRead_good B b H N w h lv A n cp hn hv l d c ρ hT hl hd hc
 | false =>
   refine (stpRead_bad b lv A n cp l d c r w hT hl hd hc hr).mono ?_
   rintro e w' ⟨rfl,hb⟩
   obtain ⟨e1,e2⟩:=srdE_bad (N:=N) (lv:=lv) hT
   exact ⟨.slice none 0 0,by rw [e1],by rw [e2];exact OwV.nil _ _,hb⟩
end Go.Proofs.YtldfoadildaljaaGreat
end
