/- Texts put together: Keep, MakeS, PlaySec, Within, KeepCopy, Synd, OwnInt, Seal. -/
import Derived.Test.YtldfoadildaljaaGreatWmaa
import Derived.StillTailTactics
import Derived.Test.YtldfoadildaljaaGreatProg
section
namespace Go.Proofs.YtldfoadildaljaaGreat
open Go.RowKit
theorem xor_u8 (a b:UInt8):bits .xor .u8 (a.toNat:Int) (b.toNat:Int)=(((a ^^^ b).toNat:Nat):Int):=by
 rw [u8_xor_nat _ _ a.toNat_lt b.toNat_lt,UInt8.toNat_xor]
theorem take_snoc_eq {bs bs':List UInt8} {j:Nat} (h:bs.take j=bs'.take j) (hj:j < bs.length) (hj':j < bs'.length) (he:bs.getD j 0=bs'.getD j 0):bs.take (j + 1)=bs'.take (j + 1):=by
 rw [List.take_succ_eq_append_getElem hj,List.take_succ_eq_append_getElem hj',h]
 have e:bs[j]=bs'[j]:=by simpa [hj,hj'] using he
 rw [e]
theorem getD_of_eq {bs bs':List UInt8} (h:bs=bs') (j:Nat):bs.getD j 0=bs'.getD j 0:=by rw [h]
theorem u8_bne {a b:UInt8} (h:a ≠ b):((a.toNat:Int) != (b.toNat:Int))=true:=by
 rw [bne_iff_ne];intro h';exact h (UInt8.toNat_inj.1 (by omega))
def SamePost (bs bs':List UInt8) (w:World) (e:Ending) (w':World):Prop:=e=.returned (.bool (decide (bs=bs')))∧∃ m,w'=w.drewN m
set_option maxHeartbeats 400000 in
theorem same_any (A A':Option Addr) (n n' c c' B:Nat) (bs bs':List UInt8) (w:World) (hn:n=bs.length) (hn':n'=bs'.length) (hr:RdB w B A bs) (hr':RdB w B A' bs') :
    Calls Tryz.prog 19 #[.slice A n c,.slice A' n' c'] w (SamePost bs bs' w):=by
 subst hn hn'
 have hl:=hr.1
 have hl':=hr'.1
 by_cases hlen:bs.length=bs'.length
 ·have hle:=Lib.hid hlen
  have hne:((bs.length:Int) != (bs'.length:Int))=false:=by rw [hlen];simp
  clear hlen
  go_enter Tryz.func19,Tryz.ntmps19
  go_wp2
  go_loopw [5] (fun i wr=>∃ j m:Nat,j ≤ bs.length∧i=.int .i64 j∧bs.take j=bs'.take j∧wr=w.drewN m) (fun i _=>bs.length - (intOf i).toNat)
  case atStart=>exact ⟨0,0,Nat.zero_le _,rfl,rfl,rfl⟩
  case round =>
   obtain ⟨j,m,hj,rfl,htk,rfl⟩:=hrel
   have Htk:=Lib.hid htk
   clear htk
   by_cases hlt:j < bs.length
   ·have hlt':j < bs'.length:=by have:=hle.out;omega
    obtain ⟨b,off,rfl,hb,hc⟩:=hr.2 (by omega)
    obtain ⟨b',off',rfl,hb',hc'⟩:=hr'.2 (by omega)
    have h1:=hc j hlt
    have h2:=hc' j hlt'
    have i0:(0:Int) ≤ (j:Int):=by omega
    have i1:(j:Int) < (bs.length:Int):=by omega
    have i2:(j:Int) < (bs'.length:Int):=by omega
    clear hc hc'
    by_cases he:bs.getD j 0=bs'.getD j 0
    ·have Hsn:=Lib.hid (take_snoc_eq Htk.out hlt hlt' he)
     rw [← he] at h2
     clear he
     generalize bs.getD j 0=x at h1 h2
     go_wp2
     go_quiet (fail)
     go_wp2
     go_roundw
     case rel=>exact ⟨j + 1,_,by omega,by go_num,Hsn.out,rfl⟩
     case measure=>simp [intOf];omega
    ·have hd:decide (bs=bs')=false:=by simpa using fun h=>he (getD_of_eq h j)
     have Hd:=Lib.hid hd
     have hb:=u8_bne he
     clear hd he
     generalize bs.getD j 0=x at h1 hb
     generalize bs'.getD j 0=y at h2 hb
     go_wp2
     go_quiet (fail)
     go_wp2
     go_ret
     exact ⟨by rw [Hd.out];rfl,m + nq,World.drewN_drewN _ _ _⟩
   ·obtain rfl:j=bs.length:=by omega
    have Hd:Hid (decide (bs=bs')=true):=by
     have h1:=Htk.out
     rw [List.take_length,hle.out,List.take_length] at h1
     exact decide_eq_true h1
    go_wp2
    go_ret
    exact ⟨by rw [Hd.out];rfl,m,rfl⟩
 ·go_enter Tryz.func19,Tryz.ntmps19
  have hne:((bs.length:Int) != (bs'.length:Int))=true:=by rw [bne_iff_ne];omega
  go_wp2
  go_ret
  exact ⟨by rw [decide_eq_false (fun h=>hlen (by rw [h]))];rfl,0,rfl⟩
end Go.Proofs.YtldfoadildaljaaGreat
end
section
namespace Go.Proofs.YtldfoadildaljaaGreat
open Go.RowKit
end Go.Proofs.YtldfoadildaljaaGreat
end
section
namespace Go.Proofs.YtldfoadildaljaaGreat
open Go.RowKit
def secI (n:Int) (k:Nat):Int:=wrap64 (n + wrap64 ((k:Int) * bits .or .i64 (n.tdiv 7) 1)) % 256
def secU (n:Int) (k:Nat):UInt8:=UInt8.ofNat (secI n k).toNat
theorem secU_val (n:Int) (k:Nat):((secU n k).toNat:Int)=secI n k:=by
 have h0:0 ≤ secI n k:=Int.emod_nonneg _ (by omega)
 have h1:secI n k < 256:=Int.emod_lt_of_pos _ (by omega)
 unfold secU
 rw [UInt8.toNat_ofNat']
 generalize secI n k=x at h0 h1
 have:x.toNat < 256:=by omega
 rw [Nat.mod_eq_of_lt (by simpa using this)]
 omega
def sectorB (n:Int):List UInt8:=if withinI n 11=10 then List.replicate 32 0 else (List.range 32).map (secU n)
theorem sectorB_len (n:Int):(sectorB n).length=32:=by
 unfold sectorB;split
 ·rw [List.length_replicate]
 ·rw [List.length_map,List.length_range]
def secTo (n:Int) (k:Nat):List UInt8:=(List.range k).map (secU n) ++ List.replicate (32 - k) 0
theorem secTo_zero (n:Int):secTo n 0=List.replicate 32 0:=rfl
theorem secTo_all (n:Int):secTo n 32=(List.range 32).map (secU n):=by unfold secTo;simp
theorem secTo_len (n:Int) {k:Nat} (h:k ≤ 32):(secTo n k).length=32:=by unfold secTo;simp;omega
theorem secTo_succ (n:Int) {k:Nat} (h:k < 32):(secTo n k).set k (secU n k)=secTo n (k + 1):=by
 have hl:((List.range k).map (secU n)).length=k:=by simp
 unfold secTo
 rw [List.set_append_right _ _ (by omega),hl,Nat.sub_self,show 32 - k=(32 - (k + 1)) + 1 from by omega,List.replicate_succ,List.set_cons_zero,List.range_succ,List.map_append,List.append_assoc]
 rfl
set_option maxHeartbeats 400000 in
theorem sector_any (n:Int) (w:World) (hn:-9223372036854775808 ≤ n∧n ≤ 9223372036854775807) :
    Calls Tryz.prog 54 #[.int .i64 n] w fun e w'=>∃ g,e=.returned (.slice (some ⟨g,0,none⟩) 32 32)∧OwB 5 w' w.heap.size (.slice (some ⟨g,0,none⟩) 32 32) (sectorB n)∧Below w.heap.size w w':=by
 have hmk:∀ w,(Instr.makeSlice 48 (.int .i64 32) (.int .i64 32)).run Tryz.prog w=.ok (.slice (some ⟨w.heap.size,0,none⟩) 32 32) (w.alloc (.cells (zcells 32) 5)):=make_bytes 32 (by omega)
 have CW:=Lib.hid (fun W=>within_any n 11 W hn (by omega))
 have HE:Hid (sectorB n=if withinI n 11=10 then List.replicate 32 0 else (List.range 32).map (secU n)):=rfl
 have ho:=own_make 5 w 32 (by omega)
 have hb0:=below1 w (.cells (zcells 32) 5)
 generalize withinI n 11=q at CW HE
 by_cases hq:q=10
 ·subst hq
  rw [if_pos rfl] at HE
  go_enter Tryz.func54,Tryz.ntmps54
  go_wp2_with fail
  generalize w.alloc (.cells (zcells 32) 5)=w0 at ho hb0 ⊢
  refine (CW.out _).mono ?_
  rintro e w' ⟨rfl,rfl⟩
  go_wp2
  go_ret
  exact ⟨w.heap.size,rfl,by rw [HE.out];exact ho,hb0⟩
 ·have hqb:(q == 10)=false:=by rw [beq_eq_false_iff_ne];exact hq
  rw [if_neg hq,← secTo_all] at HE
  rw [← secTo_zero n] at ho
  go_enter Tryz.func54,Tryz.ntmps54
  go_wp2_with fail
  generalize w.alloc (.cells (zcells 32) 5)=w0 at ho hb0 ⊢
  refine (CW.out _).mono ?_
  rintro e w' ⟨rfl,rfl⟩
  clear hmk
  go_wp2
  go_loopw [12] (fun i wr=>∃ k:Nat,k ≤ 32∧i=.int .i64 k∧OwB 5 wr w.heap.size (.slice (some ⟨w.heap.size,0,none⟩) 32 32) (secTo n k)∧Below w.heap.size w wr) (fun i _=>32 - (intOf i).toNat)
  case atStart=>exact ⟨0,by omega,rfl,ho,hb0⟩
  case round =>
   obtain ⟨k,hk,rfl,hown,hbr⟩:=hrel
   by_cases hlt:k < 32
   ·have i0:(0:Int) ≤ (k:Int):=by omega
    have i1:(k:Int) < 32:=by omega
    obtain ⟨hc,hf⟩:=hown.cell (secTo_len n hk) k hlt
    have hset:=(hown.set (secTo_len n hk) k (secU n k)).1
    rw [secU_val,secTo_succ n hlt] at hset
    have Hset:=Lib.hid hset
    have Hbs:=Lib.hid (hbr.setCell (p:=⟨w.heap.size,k,none⟩) (Nat.le_refl _) (.int .u8 (secI n k)))
    clear hset hown
    go_wp2
    go_roundw
    case rel=>exact ⟨k + 1,by omega,by go_num,Hset.out,Hbs.out⟩
    case measure=>simp [intOf];omega
   ·obtain rfl:k=32:=by omega
    go_wp2
    go_ret
    exact ⟨w.heap.size,rfl,by rw [HE.out];exact hown,hbr⟩
end Go.Proofs.YtldfoadildaljaaGreat
end
section
namespace Go.Proofs.YtldfoadildaljaaGreat
open Go.RowKit
end Go.Proofs.YtldfoadildaljaaGreat
end
section
namespace Go.Proofs.YtldfoadildaljaaGreat
open Go.RowKit
end Go.Proofs.YtldfoadildaljaaGreat
end
section
namespace Go.Proofs.YtldfoadildaljaaGreat
open Go.RowKit
theorem int_bne_no {a b:Nat} (h:a=b):((a:Int) != (b:Int))=false:=by simp [h]
theorem int_bne_yes {a b:Nat} (h:a ≠ b):((a:Int) != (b:Int))=true:=by simp;omega
theorem nil_own (w:World) (B:Nat) {bs:List UInt8} (h:bs=[]):OwB 5 w B (.slice none 0 0) bs:=by subst h;exact OwB.nil _ _ _
set_option maxHeartbeats 400000 in
theorem zeros_any (A:Option Addr) (rs:List (List UInt8)) (n cp:Nat) (w:World) (hn:rs.length=n) (hr:RdR w w.heap.size A rs) :
    Calls Tryz.prog 104 #[.slice A n cp] w fun e w'=>∃ v,e=.returned v∧OwB 5 w' w.heap.size v (zerosB rs)∧Below w.heap.size w w':=by
 subst hn
 have hm:=hr.1
 by_cases h0:rs.length=0
 ·have hz:zerosB rs=[]:=by rw [List.eq_nil_of_length_eq_zero h0];rfl
  have hz:=Lib.hid hz
  have e0:((rs.length:Int) == 0)=true:=by rw [h0];rfl
  clear h0
  go_enter Tryz.func104,Tryz.ntmps104
  go_wp2
  go_ret
  exact ⟨_,rfl,nil_own _ _ hz.out,Below.refl _ _⟩
 ·obtain ⟨b,off,rfl,hb,hc⟩:=hr.2 (by omega)
  have Hc:=Lib.hid hc
  obtain ⟨A0,c0,k0,r0⟩:=hc 0 (by omega)
  have Hno:=Lib.hid (fun k=>@alikeB_no rs k)
  have Hyes:=Lib.hid (@alikeB_iff rs)
  have Hz:Hid (zerosB rs=if alikeB rs then zeroL (rs.getD 0 []).length else []):=rfl
  have hN:=r0.1
  rw [Nat.add_zero] at k0
  have i0:(0:Int) < (rs.length:Int):=by omega
  have i1:0 < rs.length:=by omega
  have e0:((rs.length:Int) == 0)=false:=by rw [beq_eq_false_iff_ne];omega
  have km:=make_bytes (rs.getD 0 []).length hN
  generalize (rs.getD 0 []).length=N at k0 hN km Hno Hyes Hz
  clear hc h0 hr r0
  go_enter Tryz.func104,Tryz.ntmps104
  go_wp2
  go_loop [15] (fun i=>∃ k:Nat,k ≤ rs.length∧i=.int .i64 k∧Hid (∀ j,j < k→(rs.getD j []).length=N)) (fun i=>rs.length - (intOf i).toNat)
  case atStart=>exact ⟨0,Nat.zero_le _,rfl,fun j hj=>by omega⟩
  case round =>
   obtain ⟨k,hk,rfl,Hj⟩:=hrel
   by_cases hlt:k < rs.length
   ·obtain ⟨A',c',h1,h2⟩:=Hc.out k hlt
    have Hno:=Lib.hid (Hno.out k hlt)
    by_cases he:(rs.getD k []).length=N
    ·have Hn:Hid (∀ j,j < k + 1→(rs.getD j []).length=N):=fun j hj=>by
       by_cases hjk:j=k
       ·subst hjk;exact he
       ·exact Hj.out j (by omega)
     rw [he] at h1
     clear h2 he
     go_wp2
     go_round
     case rel=>exact ⟨k + 1,by omega,by go_num,Hn⟩
     case measure=>simp [intOf];omega
    ·have hz:Hid (zerosB rs=[]):=by rw [Hz.out,Hno.out he];rfl
     have hne:=int_bne_yes he
     clear he
     generalize rs.getD k []=row at h1 h2 hne
     go_wp2
     go_ret
     exact ⟨_,rfl,nil_own _ _ hz.out,Below.refl _ _⟩
   ·obtain rfl:k=rs.length:=by omega
    have hz:=Lib.hid (show zerosB rs=zeroL N by rw [Hz.out,if_pos (Hyes.out.2 ⟨i1,Hj.out⟩)])
    go_wp2
    go_ret
    exact ⟨_,rfl,by rw [hz.out];exact own_make _ w N hN,below1 _ _⟩
theorem own_nil_len {w:World} {B:Nat} {v:Value} (h:OwB 5 w B v []):∃ A c,v=.slice A 0 c:=by
 obtain ⟨A,c,hv,_,_⟩:=h.rd
 exact ⟨A,c,hv⟩
set_option maxHeartbeats 800000 in
theorem p_any (A:Option Addr) (rs:List (List UInt8)) (n cp:Nat) (w:World) (hn:rs.length=n) (hr:RdR w w.heap.size A rs) :
    Calls Tryz.prog 86 #[.slice A n cp] w fun e w'=>∃ v,e=.returned v∧OwB 5 w' w.heap.size v (pB rs)∧Below w.heap.size w w':=by
 have C:=Lib.hid (zeros_any A rs n cp w hn hr)
 subst hn
 have hm:=hr.1
 by_cases h0:zerosB rs=[]
 ·have Hp:Hid (pB rs=[]):=sumG_nil gP_len h0
  rw [h0] at C
  clear h0
  go_enter Tryz.func86,Tryz.ntmps86
  go_wp2_with fail
  refine C.out.mono ?_
  rintro e w1 ⟨v,rfl,ho,hb⟩
  obtain ⟨A1,c1,rfl⟩:=own_nil_len ho
  go_wp2
  go_ret
  exact ⟨_,rfl,nil_own _ _ Hp.out,hb⟩
 ·obtain ⟨hall,hs,hal⟩:=sumG_cons (g:=gP) h0
  have Hs:Hid (pB rs=foldG gP 0 (zerosB rs) rs):=hs
  have Hall:=Lib.hid hall
  have Hf:=Lib.hid (foldG_snoc gP (zerosB rs) rs)
  have Hl:=Lib.hid (foldG_take_len gP_len hall)
  have hpos:0 < (zerosB rs).length:=by cases hz:zerosB rs with | nil=>exact absurd hz h0 | cons a b=>simp
  clear hall hs hal h0
  generalize zerosB rs=zs at C Hs Hall Hf Hl hpos
  go_enter Tryz.func86,Tryz.ntmps86
  go_wp2_with fail
  refine C.out.mono ?_
  rintro e w1 ⟨v,rfl,ho,hb⟩
  obtain ⟨g,cap,rfl,hg,hg1,hcap,_,_⟩:=ho.pos hpos
  have hzl:=ho.2
  have e0:((zs.length:Int) == 0)=false:=by rw [beq_eq_false_iff_ne];omega
  go_wp2
  go_loopw [15] (fun i wr=>∃ k:Nat,k ≤ rs.length∧i=.int .i64 k∧OwB 5 wr w.heap.size (.slice (some ⟨g,0,none⟩) zs.length cap) (foldG gP 0 zs (rs.take k))∧Below w.heap.size w wr) (fun i _=>rs.length - (intOf i).toNat)
  case atStart=>exact ⟨0,Nat.zero_le _,rfl,ho,hb⟩
  case round =>
   obtain ⟨k,hk,rfl,hown,hbr⟩:=hrel
   have Hy:=Lib.hid (Hl.out k)
   by_cases hlt:k < rs.length
   ·obtain ⟨b,off,rfl,hbb,hc⟩:=hr.2 (by omega)
    obtain ⟨A',c',h1,h2⟩:=hc k hlt
    have Hsn:=Lib.hid (Hf.out k hlt)
    have hln:=Hall.out k hlt
    rw [hln] at h1
    have Hln:=Lib.hid hln
    clear hln hc
    rw [← hbr.cell (p:=⟨b,off + k,none⟩) hbb] at h1
    generalize rs.getD k []=row at h1 h2 Hsn Hln
    generalize foldG gP 0 zs (rs.take k)=y at hown Hsn Hy
    have hlen:=h2.1
    go_wp2
    go_loopw [21] (fun i wr=>∃ j:Nat,j ≤ zs.length∧i=.int .i64 j∧OwB 5 wr w.heap.size (.slice (some ⟨g,0,none⟩) zs.length cap) (xorTo y row j)∧Below w.heap.size w wr) (fun i _=>zs.length - (intOf i).toNat)
    case atStart=>exact ⟨0,Nat.zero_le _,rfl,by rw [xorTo_zero];exact hown,hbr⟩
    case round =>
     obtain ⟨j,hj,rfl,hown2,hbr2⟩:=hrel
     have hry:row.length=y.length:=Hln.out.trans Hy.out.symm
     have Hry:=Lib.hid hry
     clear hry
     by_cases hlt2:j < zs.length
     ·obtain ⟨b2,off2,rfl,hb2,hc2⟩:=h2.2 (by have:=Hln.out;omega)
      have h3:=hc2 j (by have:=Hln.out;omega)
      rw [← hbr2.cell (p:=⟨b2,off2 + j,none⟩) hb2] at h3
      obtain ⟨h4,h5⟩:=hown2.cell ((xorTo_len Hry.out (by have:=Hy.out;omega)).trans Hy.out) j hlt2
      rw [xorTo_get Hry.out (by have:=Hy.out;omega)] at h4
      have Hset:=Lib.hid (hown2.set ((xorTo_len Hry.out (by have:=Hy.out;omega)).trans Hy.out) j (y.getD j 0 ^^^ row.getD j 0)).1
      have Hx:=Lib.hid (xorTo_succ Hry.out (show j < y.length by have:=Hy.out;omega))
      have ex:=xor_u8 (y.getD j 0) (row.getD j 0)
      have i0:(0:Int) ≤ (j:Int):=by omega
      have i1:(j:Int) < (zs.length:Int):=by omega
      generalize row.getD j 0=c at h3 Hset Hx ex
      generalize y.getD j 0=d at h4 Hset Hx ex
      generalize d ^^^ c=dc at Hset Hx ex
      clear hc2
      go_wp2
      go_roundw
      case rel=>exact ⟨j + 1,by omega,by go_num,by rw [← Hx.out];exact Hset.out,hbr2.setCell (p:=⟨g,j,none⟩) hg _⟩
      case measure=>simp [intOf];omega
     ·obtain rfl:j=zs.length:=by omega
      have Hxa:Hid (xorTo y row zs.length=xorL y row):=by rw [← Hy.out];exact xorTo_all Hry.out
      rw [Hxa.out] at hown2
      go_wp2
      go_roundw
      case rel=>exact ⟨k + 1,by omega,by go_num,by rw [Hsn.out];exact hown2,hbr2⟩
      case measure=>simp [intOf];omega
   ·obtain rfl:k=rs.length:=by omega
    have Hall2:Hid (foldG gP 0 zs (rs.take rs.length)=pB rs):=by rw [List.take_length];exact Hs.out.symm
    have Hyl:=Lib.hid (show (pB rs).length=zs.length by rw [← Hall2.out];exact Hy.out)
    rw [Hall2.out] at hown
    go_wp2
    go_ret
    exact ⟨_,rfl,hown,hbr⟩
end Go.Proofs.YtldfoadildaljaaGreat
end
section
set_option linter.unusedVariables false
set_option linter.unusedSimpArgs false
namespace Go.Proofs.YtldfoadildaljaaGreat
open Go.RowKit
def zv (z:Int):Value:=.int .i64 z
def OwJ (w:World) (B:Nat) (v:Value) (zs:List Int):Prop:=w.ownsRow B 3 1 v zs.length (zs.map zv)
def RdJ (w:World) (B:Nat) (A:Option Addr) (zs:List Int):Prop :=
 zs.length ≤ 140737488355328∧(0 < zs.length→∃ b off,A=some ⟨b,off,none⟩∧b < B∧∀ j,j < zs.length→w.cell? ⟨b,off + j,none⟩=some (.int .i64 (zs.getD j 0)))
theorem RdJ.nil (w:World) (B:Nat) (A:Option Addr):RdJ w B A []:=⟨by simp,fun h=>by simp at h⟩
theorem OwJ.below {w w':World} {B:Nat} {v:Value} {zs:List Int} (h:OwJ w B v zs) (hb:Below w.heap.size w w'):OwJ w' B v zs:=World.ownsRow.kept h (grown_none hb) (Classical.em _)
theorem OwJ.rd {w:World} {B:Nat} {v:Value} {zs:List Int} (h:OwJ w B v zs) (hl:zs.length ≤ 140737488355328):∃ A c,v=.slice A zs.length c∧RdJ w w.heap.size A zs:=by
 rcases h.2 with ⟨rfl,h0⟩ | ⟨g,cap,cur,rfl,hB,hg,_⟩
 ·exact ⟨none,0,by rw [h0],hl,fun h=>by omega⟩
 ·refine ⟨_,cap,rfl,hl,fun _=>⟨g,0,rfl,(Array.getElem?_eq_some_iff.1 hg).1,fun j hj=>?_⟩⟩
  rw [Nat.zero_add,World.ownsRow.cellAt h j (by omega)]
  simp [hj,zv]
theorem OwJ.le {w:World} {B B':Nat} {v:Value} {zs:List Int} (h:OwJ w B v zs) (hB:B' ≤ B):OwJ w B' v zs:=by
 refine ⟨h.1,?_⟩
 rcases h.2 with h1 | ⟨g,cap,cur,h1,h2,r⟩
 ·exact .inl h1
 ·exact .inr ⟨g,cap,cur,h1,by omega,r⟩
theorem info_z:(Tryz.prog.info? 3).map (fun i=>(i.zero,i.size,i.bytes))=some (some (.int .i64 0),1,8):=by kernel_rfl
theorem make_ints (n:Nat) (hn:n ≤ 1000000) (w:World) :
    (Instr.makeSlice 22 (.int .i64 (n:Int)) (.int .i64 (n:Int))).run Tryz.prog w=.ok (.slice (some ⟨w.heap.size,0,none⟩) n n) (w.alloc (.cells (madeCells #[.int .i64 0] n) 3)) :=
 run_make_row' _ _ _ 8 Tryz.underlying22 info_z rfl _ _ n (by omega) (by omega) w
theorem ownJ_make (w:World) (n:Nat) (hn:n ≤ 1000000):OwJ (w.alloc (.cells (madeCells #[.int .i64 0] n) 3)) w.heap.size (.slice (some ⟨w.heap.size,0,none⟩) n n) (List.replicate n 0):=by
 have h:=World.ownsRow_lit (base:=w.heap.size) (e:=3) (size:=1) w (madeCells #[.int .i64 0] n) n (Nat.le_refl _) (by unfold maxLen;omega) (by simp [size_madeCells])
 rw [toList_madeCells_one] at h
 unfold OwJ
 simpa [zv] using h
theorem OwJ.set {w:World} {B g n c:Nat} {zs:List Int} (h:OwJ w B (.slice (some ⟨g,0,none⟩) n c) zs) (hn:n=zs.length) (j:Nat) (z:Int):OwJ (w.setCell ⟨g,j,none⟩ (.int .i64 z)) B (.slice (some ⟨g,0,none⟩) n c) (zs.set j z):=by
 subst hn
 have h1:=(World.ownsRow.stored h j (.int .i64 z)).1
 unfold OwJ
 rw [List.length_set,List.map_set]
 exact h1
theorem OwJ.cellF {w:World} {B g n c:Nat} {zs:List Int} (h:OwJ w B (.slice (some ⟨g,0,none⟩) n c) zs) (hn:n=zs.length) (j:Nat) (hj:j < n):w.cell? ⟨g,j,none⟩=some (.int .i64 (zs.getD j 0))∧w.frozen? ⟨g,j,none⟩=false:=by
 subst hn
 refine ⟨?_,World.ownsRow.frozenAt h j⟩
 rw [World.ownsRow.cellAt h j (by omega)]
 simp [hj,zv]
end Go.Proofs.YtldfoadildaljaaGreat
end
section
namespace Go.Proofs.YtldfoadildaljaaGreat
open Go.RowKit
end Go.Proofs.YtldfoadildaljaaGreat
end
