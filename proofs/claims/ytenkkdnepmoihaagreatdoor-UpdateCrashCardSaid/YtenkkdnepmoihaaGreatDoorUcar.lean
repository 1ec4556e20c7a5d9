/- Texts put together: PlaySecs, RefRec, RefRecC, TwoV. -/
import Derived.Test.YtenkkdnepmoihaaGreatDoorUcac
import Derived.Test.YtenkkdnepmoihaaGreatDoorUcam
import Derived.Test.YtenkkdnepmoihaaGreatDoorUcaa
import Derived.Test.YtenkkdnepmoihaaGreatDoorUcal
import Derived.Test.YtenkkdnepmoihaaGreatDoorUcag
section
set_option maxRecDepth 8000
set_option linter.unusedVariables false
set_option linter.unusedSimpArgs false
namespace Go.Proofs.YtenkkdnepmoihaaGreatDoor
open Go.RowKit
theorem info_row2:(Tryz.prog.info? 35).map (fun i=>(i.zero,i.size,i.bytes))=some (some (.slice none 0 0),1,24):=by kernel_rfl
def OwV (lo:Nat) (w:World) (v:Value) (rs:List (List UInt8)):Prop:=∃ xs,w.ownsRow lo 35 1 v rs.length xs∧RowsY w lo v.ownBlock xs rs
theorem OwV.rd {lo:Nat} {w:World} {v:Value} {rs:List (List UInt8)} (h:OwV lo w v rs) (hl:rs.length ≤ 140737488355328):∃ A cap,v=.slice A rs.length cap∧rs.length ≤ cap∧RdR w w.heap.size A rs:=by
 obtain ⟨xs,h1,h2⟩:=h
 obtain ⟨A,c,h3,h4,h5⟩:=rdf_own h1 hl h2
 exact ⟨A,c,h3,h4,h5.rdr⟩
theorem OwV.owr {lo:Nat} {w:World} {v:Value} {rs:List (List UInt8)} (h:OwV lo w v rs) (h0:0 < rs.length):∃ g cap,v=.slice (some ⟨g,0,none⟩) rs.length cap∧OwR w lo g rs.length cap rs:=by
 obtain ⟨xs,h1,h2⟩:=h
 rcases h1.2 with ⟨_,h3⟩ | ⟨g,cap,cur,rfl,hb,hg,hc,r⟩
 ·omega
 ·exact ⟨g,cap,rfl,rfl,hc,hb,xs,h1,h2⟩
theorem OwV.nil (lo:Nat) (w:World):OwV lo w (.slice none 0 0) []:=⟨[],World.ownsRow_nil _ _ _ _,RowsY.nil _ _ _⟩
def secZ (zs:List Int) (i:Nat):Int:=if i < zs.length then zs.getD i 0 else 3 * (i:Int)
def sectorsB (zs:List Int) (n:Nat):List (List UInt8):=(List.range n).map fun i=>sectorB (secZ zs i)
theorem sectorsB_len (zs:List Int) (n:Nat):(sectorsB zs n).length=n:=by simp [sectorsB]
theorem sectorsB_mem {zs:List Int} {n:Nat}:∀ x ∈ sectorsB zs n,x.length=32:=fun x hx=>by
 unfold sectorsB at hx
 obtain ⟨i,_,rfl⟩:=List.mem_map.1 hx
 exact sectorB_len _
theorem sectorsB_snoc (zs:List Int) (k:Nat):sectorsB zs (k + 1)=sectorsB zs k ++ [sectorB (secZ zs k)]:=by
 unfold sectorsB
 rw [List.range_succ,List.map_append]
 rfl
set_option maxHeartbeats 1600000 in
theorem sectors_any (A:Option Addr) (zs:List Int) (m cp n:Nat) (w:World) (hm:m=zs.length) (hr:RdZ w w.heap.size A zs) (hn:n ≤ 8) :
    Calls Tryz.prog 40 #[.slice A m cp,.int .i64 (n:Int)] w fun e w'=>∃ v,e=.returned v∧OwV w.heap.size w' v (sectorsB zs n)∧Below w.heap.size w w':=by
 subst hm
 have hz:=hr.1
 go_enter Tryz.func40,Tryz.ntmps40
 go_wp2
 go_loopw [5,6] (fun o i wr=>∃ (k:Nat) (vs:List Value),k ≤ n∧i=.int .i64 k∧wr.ownsRow w.heap.size 35 1 o k vs∧RowsY wr w.heap.size o.ownBlock vs (sectorsB zs k)∧Below w.heap.size w wr) (fun _ i _=>n - (intOf i).toNat)
 case atStart=>exact ⟨0,[],Nat.zero_le _,rfl,World.ownsRow_nil _ _ _ _,RowsY.nil _ _ _,Below.refl _ _⟩
 case round =>
  obtain ⟨k,vs,hk,rfl,hown,hrows,hbr⟩:=hrel
  have Hsn:=Lib.hid (sectorsB_snoc zs k)
  by_cases hlt:k < n
  ·have i0:(0:Int) ≤ (k:Int):=by omega
   have i1:(k:Int) < (n:Int):=by omega
   generalize sectorsB zs k=rk at hrows Hsn
   by_cases hz2:k < zs.length
   ·have e1:secZ zs k=zs.getD k 0:=if_pos hz2
    rw [e1] at Hsn
    obtain ⟨b,off,rfl,hbb,hc⟩:=hr.2.2 (by omega)
    have h1:=hc k hz2
    rw [← hbr.cell (p:=⟨b,off + k,none⟩) hbb] at h1
    have hbd:=hr.bd k
    have i2:(k:Int) < (zs.length:Int):=by omega
    generalize zs.getD k 0=x at h1 hbd Hsn
    clear hc e1
    go_wp2_with fail
    (with_reducible refine (sector_any x _ hbd).mono ?_);rintro e w1 ⟨g1,rfl,ho1,hb1⟩
    have hs0:=hbr.size
    have hrows1:=hrows.below hb1
    have hown1:=hown.kept (grown_none hb1) (Classical.em _)
    have hbw1:=hbr.trans (hb1.mono hs0)
    have hs1:=hbw1.size
    have hob:=Lib.hid (fun hp=>ho1.addr_ob hp)
    have hl1:(sectorB x).length=32:=sectorB_len _
    go_wp2_with (at_builtin;refine wpList_append_V rfl _ _ _ rfl w.heap.size 35 (.slice none 0 0) 24 Tryz.underlying32 info_row2 rfl _ k vs rfl (hown1.kept (grown_none (below1 w1 _)) (Classical.em _)) (w1.heap.size + 1) (some ⟨w1.heap.size,0,none⟩) 1 1 [.slice (some ⟨g1,0,none⟩) 32 32] rfl rfl (fun _=>⟨w1.heap.size,0,rfl,by omega,fun j hj=>by obtain rfl:j=0:=(by simp at hj;omega);exact cell_of_row _ _ _ _ _ _ (hp_new _ _ _ rfl)⟩) (fun u hu=>by simp at hu;subst hu;rfl) (by unfold maxLen;omega) (by omega) (by have:=hbw1.size;simp;omega) ?_;intro v2 w2 hown2 hg2 hat2)
    have hX0:=(hrows1.below (below1 w1 (.cells #[.slice (some ⟨g1,0,none⟩) 32 32] 35))).snoc (c:=32) ((ho1.le hs0).below (below1 w1 _)).rdbf (fun hp a ha e=>by
     injection ha with ha
     subst ha
     have h3:=(hown.lt _ e.symm).2
     have h4:=(ho1.lt g1 rfl).1
     simp at h3
     omega)
    rw [hl1] at hX0
    have hX:=hX0.grown hg2 hat2
    have hbw2:=(hbw1.alloc hbw1.size (.cells #[.slice (some ⟨g1,0,none⟩) 32 32] 35)).grown hg2 (by have:=hbw1.size;simp;omega) (fun j hj=>(hown.lt j hj).1)
    rw [← Hsn.out] at hX
    clear hX0
    clear hrows1 hown1 hbw1 hg2 ho1 hb1 hbr hown hrows hl1
    go_wp2
    go_roundw
    case rel=>exact ⟨k + 1,_,by omega,by go_num,hown2,hX,hbw2⟩
    case measure=>simp [intOf];omega
   ·have e1:secZ zs k=3 * (k:Int):=if_neg hz2
    rw [e1] at Hsn
    have hbd:-9223372036854775808 ≤ 3 * (k:Int)∧3 * (k:Int) ≤ 9223372036854775807:=by omega
    have i2:¬ (k:Int) < (zs.length:Int):=by omega
    clear e1
    go_wp2_with fail
    (with_reducible refine (sector_any (3 * (k:Int)) _ hbd).mono ?_);rintro e w1 ⟨g1,rfl,ho1,hb1⟩
    have hs0:=hbr.size
    have hrows1:=hrows.below hb1
    have hown1:=hown.kept (grown_none hb1) (Classical.em _)
    have hbw1:=hbr.trans (hb1.mono hs0)
    have hs1:=hbw1.size
    have hob:=Lib.hid (fun hp=>ho1.addr_ob hp)
    have hl1:(sectorB (3 * (k:Int))).length=32:=sectorB_len _
    go_wp2_with (at_builtin;refine wpList_append_V rfl _ _ _ rfl w.heap.size 35 (.slice none 0 0) 24 Tryz.underlying32 info_row2 rfl _ k vs rfl (hown1.kept (grown_none (below1 w1 _)) (Classical.em _)) (w1.heap.size + 1) (some ⟨w1.heap.size,0,none⟩) 1 1 [.slice (some ⟨g1,0,none⟩) 32 32] rfl rfl (fun _=>⟨w1.heap.size,0,rfl,by omega,fun j hj=>by obtain rfl:j=0:=(by simp at hj;omega);exact cell_of_row _ _ _ _ _ _ (hp_new _ _ _ rfl)⟩) (fun u hu=>by simp at hu;subst hu;rfl) (by unfold maxLen;omega) (by omega) (by have:=hbw1.size;simp;omega) ?_;intro v2 w2 hown2 hg2 hat2)
    have hX0:=(hrows1.below (below1 w1 (.cells #[.slice (some ⟨g1,0,none⟩) 32 32] 35))).snoc (c:=32) ((ho1.le hs0).below (below1 w1 _)).rdbf (fun hp a ha e=>by
     injection ha with ha
     subst ha
     have h3:=(hown.lt _ e.symm).2
     have h4:=(ho1.lt g1 rfl).1
     simp at h3
     omega)
    rw [hl1] at hX0
    have hX:=hX0.grown hg2 hat2
    have hbw2:=(hbw1.alloc hbw1.size (.cells #[.slice (some ⟨g1,0,none⟩) 32 32] 35)).grown hg2 (by have:=hbw1.size;simp;omega) (fun j hj=>(hown.lt j hj).1)
    rw [← Hsn.out] at hX
    clear hX0
    clear hrows1 hown1 hbw1 hg2 ho1 hb1 hbr hown hrows hl1
    go_wp2
    go_roundw
    case rel=>exact ⟨k + 1,_,by omega,by go_num,hown2,hX,hbw2⟩
    case measure=>simp [intOf];omega
  ·obtain rfl:k=n:=by omega
   have i1:¬ (k:Int) < (k:Int):=by omega
   go_wp2
   go_ret
   exact ⟨_,rfl,⟨vs,by rw [sectorsB_len];exact hown,hrows⟩,hbr⟩
end Go.Proofs.YtenkkdnepmoihaaGreatDoor
end
section
set_option maxRecDepth 8000
set_option linter.unusedVariables false
set_option linter.unusedSimpArgs false
namespace Go.Proofs.YtenkkdnepmoihaaGreatDoor
open Go.RowKit
def RdIc (w:World) (B:Nat) (A:Option Addr) (l:List It):Prop :=
 l.length ≤ 140737488355328∧(0 < l.length→∃ b,A=some ⟨b,0,none⟩∧b < B∧∀ k,k < l.length→∃ D c,w.rangeAt b (k * 3) [.int .i64 (itN l k).d,.int .i64 (itN l k).a,.slice D (itN l k).b.length c]∧RdB w B D (itN l k).b∧(itN l k).b.length ≤ c)
theorem RdIc.keep {w w':World} {B B':Nat} {A:Option Addr} {l:List It} (h:RdIc w B A l) (hB:B ≤ B') (hk:∀ p:Addr,p.block < B→w'.cell? p=w.cell? p):RdIc w' B' A l :=
 ⟨h.1,fun hn=>by
  obtain ⟨b,e,hb,hc⟩:=h.2 hn
  refine ⟨b,e,by omega,fun k hk'=>?_⟩
  obtain ⟨D,c,h1,h2,h3⟩:=hc k hk'
  exact ⟨D,c,rangeAt_keep h1 fun j=>hk ⟨b,j,none⟩ hb,h2.keep hB hk,h3⟩⟩
theorem RdIc.below {w w':World} {B B':Nat} {A:Option Addr} {l:List It} (h:RdIc w B A l) (hb:Below B' w w') (hB:B ≤ B'):RdIc w' B A l:=h.keep (Nat.le_refl _) fun p hp=>hb.cell (by omega)
theorem RdIc.more {w:World} {B B':Nat} {A:Option Addr} {l:List It} (h:RdIc w B A l) (hB:B ≤ B'):RdIc w B' A l:=h.keep hB fun _ _=>rfl
theorem RdIc.later {w w':World} {A:Option Addr} {l:List It} (h:RdIc w w.heap.size A l) (hb:Below w.heap.size w w'):RdIc w' w'.heap.size A l:=(h.below hb (Nat.le_refl _)).more hb.size
theorem infoRI:(Tryz.prog.info? 125).map (fun i=>(i.zero,i.size,i.bytes))=some (some (.agg #[.int .i64 0,.int .i64 0,.slice none 0 0]),3,40):=by kernel_rfl
set_option maxHeartbeats 4000000 in
theorem refRecs_any (A:Option Addr) (n c:Nat) (l:List It) (w:World) (hn:l.length=n) (hl:n ≤ 1000) (h:RdIc w w.heap.size A l) :
    Calls Tryz.prog 59 #[.slice A n c] w fun e w'=>∃ v,e=.returned v∧OwIt 125 w' w.heap.size 0 v l∧Below w.heap.size w w':=by
 subst hn
 have H:=Lib.hid h
 clear h
 go_enter Tryz.func59,Tryz.ntmps59
 go_wp2
 go_loopw [3,8] (fun v i wr=>∃ j:Nat,j ≤ l.length∧i=.int .i64 j∧OwIt 125 wr w.heap.size 0 v (l.take j)∧Below w.heap.size w wr) (fun _ i _=>l.length - (intOf i).toNat)
 case atStart=>exact ⟨0,Nat.zero_le _,rfl,OwIt.nil _ _ _ _,Below.refl _ _⟩
 case round =>
  obtain ⟨j,hj,rfl,ho,hbr⟩:=hrel
  by_cases hlt:j < l.length
  ·obtain ⟨g,rfl,hg,hc⟩:=H.out.2 (by omega)
   obtain ⟨D,cd,hrp,hrd,hcap⟩:=hc j hlt
   have Hts:=Lib.hid (its_take hlt)
   generalize itN l j=y at hrp hrd hcap Hts
   have Hrp:=Lib.hid (rangeAt_keep (w':=wr) hrp fun k=>hbr.cell hg)
   have BX:=below1 wr (.cells #[.int .i64 y.d,.int .i64 y.a,.slice D y.b.length cd] 92)
   have c':=fun i=>cell_of_row _ _ i _ _ _ (heap_alloc_new wr (.cells #[.int .i64 y.d,.int .i64 y.a,.slice D y.b.length cd] 92))
   have BB:=hbr.alloc hbr.size (.cells #[.int .i64 y.d,.int .i64 y.a,.slice D y.b.length cd] 92)
   have hbz:=hbr.size
   generalize hW1:wr.alloc (.cells #[.int .i64 y.d,.int .i64 y.a,.slice D y.b.length cd] 92)=W1 at BX c' BB
   have B2:=below1 W1 (.cells #[.int .i64 y.d,.int .i64 y.a,.slice D y.b.length cd] 125)
   have ho2:=Lib.hid ((ho.below BX).below B2)
   have hrd2:RdB (W1.alloc (.cells #[.int .i64 y.d,.int .i64 y.a,.slice D y.b.length cd] 125)) (W1.alloc (.cells #[.int .i64 y.d,.int .i64 y.a,.slice D y.b.length cd] 125)).heap.size D y.b:=((hrd.below BB (Nat.le_refl _)).more BB.size |>.below B2 (Nat.le_refl _)).more B2.size
   have HS:=Lib.hid (fun (ob:Option Nat) (hob:ob=u3.ownBlock)=>src_one (lo:=0) (ob:=ob) (x:=y) (c:=cd) (heap_alloc_new W1 (.cells #[.int .i64 y.d,.int .i64 y.a,.slice D y.b.length cd] 125)) hrd2 hcap (fun h0 a ha=>by
    refine ⟨fun e=>?_,Nat.zero_le _⟩
    rw [hob] at e
    obtain ⟨b',off',e2,hb',_⟩:=hrd.2 h0
    rw [ha] at e2
    injection e2 with e2
    subst e2
    have:=(ho.lt b' e.symm).1
    omega))
   have BB2:=Lib.hid (BB.alloc BB.size (.cells #[.int .i64 y.d,.int .i64 y.a,.slice D y.b.length cd] 125))
   have hzz:=Lib.hid (BB2.out.size)
   have hjl:(l.take j).length=j:=by simp;omega
   have k0:(0:Int) ≤ (j:Int):=by omega
   have k1:(j:Int) < (l.length:Int):=by omega
   obtain ⟨b0,b1,b2⟩:=And.intro (c' 0) (And.intro (c' 1) (c' 2))
   have Hlt:=Lib.hid (ho.lt)
   clear hrp hrd hcap hc ho BX BB B2 hrd2 c'
   go_wp2_with (first
    |((with_reducible refine (id ?_:wpList _ _ _ (⟨some 11,_,_,_,_,_⟩::_) _ _));refine wpList_load_mid rfl 92 _ (by rfl) g (j * 3) (by rfl) [.int .i64 y.d,.int .i64 y.a,.slice D y.b.length cd] _ Hrp.out Tryz.underlying92 rfl (by kernel_rfl) ?_)
    |((with_reducible refine (id ?_:wpList _ _ _ (⟨some 15,_,_,_,_,_⟩::_) _ _));refine wpList_append_I _ (by rfl) _ _ _ (by rfl) w.heap.size 0 125 Tryz.underlying95 infoRI u3 _ (by rfl) ho2.out (some ⟨W1.heap.size,0,none⟩) 1 1 _ (by rfl) (by rfl) (HS.out _ rfl) (by rw [hjl];show j + 1 ≤ _;omega) hzz.out ?_
      intro v4 w4 O4 g4 _))
   go_roundw
   case rel =>
    refine ⟨j + 1,by omega,by go_num,?_,?_⟩
    ·rw [Hts.out];exact O4
    ·exact BB2.out.grown g4 BB2.out.size (fun k e=>(Hlt.out k e).1)
   case measure=>simp [intOf];omega
  ·obtain rfl:j=l.length:=by omega
   rw [List.take_length] at ho
   have Ho:=Lib.hid ho
   clear ho
   go_wp2
   go_ret
   exact ⟨_,rfl,Ho.out,hbr⟩
end Go.Proofs.YtenkkdnepmoihaaGreatDoor
end
section
set_option maxRecDepth 8000
set_option linter.unusedVariables false
set_option linter.unusedSimpArgs false
namespace Go.Proofs.YtenkkdnepmoihaaGreatDoor
open Go.RowKit
theorem recOk_all {s:Int} {l:List It} (h1:1 ≤ s) (h2:s < 2147483648) (h3:l.length ≤ 3) (h:fineN l l.length=true):recOk s l=true:=(recOk_iff s l).2 ⟨⟨h1,by omega,h3⟩,h⟩
theorem may_yes {y:It} (h1:¬ y.d < 0) (h2:¬ 8 ≤ y.d) (h3:¬ y.a < 36) (h4:¬ 52 ≤ y.a) (h5:y.b.length=32):mayB y=true:=(mayB_iff y).2 ⟨by omega,by omega,by omega,by omega,h5⟩
theorem may_nope {y:It} (h:y.d < 0∨8 ≤ y.d∨y.a < 36∨52 ≤ y.a∨y.b.length ≠ 32):mayB y=false:=by
 rw [← Bool.not_eq_true,mayB_iff];intro h';omega
theorem fine_next {l:List It} {j:Nat} (h:fineN l j=true) (h1:mayB (itN l j)=true) (h2:∀ k,k < j→meetsB (itN l j) (itN l k)=false):fineN l (j + 1)=true:=by
 rw [fineN_iff] at h ⊢
 intro k hk
 by_cases e:k=j
 ·subst e;exact ⟨h1,h2⟩
 ·exact h k (by omega)
def CrS (w:World) (q:Nat) (x:It) (V:World):Prop:=V.cell? ⟨q,0,none⟩=some (.int .i64 x.d)∧V.cell? ⟨q,1,none⟩=some (.int .i64 x.a)∧Below w.heap.size w V
theorem CrS.later {w V V':World} {q:Nat} {x:It} (h:CrS w q x V) (hb:Below V.heap.size V V'):CrS w q x V':=by
 have hq:=World.block_lt_of_cell? _ _ h.1
 exact ⟨(hb.cell (p:=⟨q,0,none⟩) hq).trans h.1,(hb.cell (p:=⟨q,1,none⟩) hq).trans h.2.1,h.2.2.trans (hb.mono h.2.2.size)⟩
set_option maxHeartbeats 8000000 in
theorem refCheckRec_any (A:Option Addr) (n c:Nat) (s:Int) (l:List It) (w:World) (hn:l.length=n) (hnc:n ≤ c) (hs:(-9223372036854775808 ≤ s∧s ≤ 9223372036854775807)) (h:RdI w w.heap.size A l) :
    Calls Tryz.prog 119 #[.int .i64 s,.slice A n c] w fun e w'=>e=.returned (.bool (recOk s l))∧Below w.heap.size w w':=by
 subst hn
 have H:=Lib.hid h
 clear h
 by_cases h1:1 ≤ s
 ·by_cases h2:s < 2147483648
  ·by_cases h3:l.length ≤ 3
   ·have HE:=Lib.hid (@recOk_all s l h1 h2 h3)
    have HA:=Lib.hid (fun (j:Nat) (hj:j < l.length) (q:mayB (itN l j)=false)=>recOk_at (s:=s) j hj q)
    have HT:=Lib.hid (fun (j k:Nat) (hj:j < l.length) (hk:k < j) (q:meetsB (itN l j) (itN l k)=true)=>recOk_two (s:=s) j k hj hk q)
    generalize recOk s l=res at HE HA HT
    have h3':(l.length:Int) ≤ 3:=by omega
    go_enter Tryz.func119,Tryz.ntmps119
    go_wp2
    clear h3'
    go_loopw [22] (fun i wr=>∃ j:Nat,j ≤ l.length∧i=.int .i64 j∧fineN l j=true∧Below w.heap.size w wr) (fun i _=>l.length - (intOf i).toNat)
    case atStart=>exact ⟨0,Nat.zero_le _,rfl,by simp [fineN],Below.refl _ _⟩
    case round =>
     obtain ⟨j,hj,rfl,hall,hbr⟩:=hrel
     have Hall:=Lib.hid hall
     clear hall
     by_cases hlt:j < l.length
     ·obtain ⟨g,rfl,hg,hc⟩:=H.out.2 (by omega)
      obtain ⟨D,cd,hrp,_⟩:=hc j hlt
      have HN:=Lib.hid (HA.out j hlt)
      have HW:=Lib.hid (fun k hk=>HT.out j k hlt hk)
      have HF:=Lib.hid (fun q1 q2=>fine_next (l:=l) (j:=j) Hall.out q1 q2)
      generalize itN l j=y at hrp HN HW HF
      have Hrp:=Lib.hid (rangeAt_keep (w':=wr) hrp fun k=>hbr.cell hg)
      have c':=fun i=>cell_of_row _ _ i _ _ _ (heap_alloc_new wr (.cells #[.int .i64 y.d,.int .i64 y.a,.slice D y.b.length cd] 125))
      have S0:Hid (CrS w wr.heap.size y (wr.alloc (.cells #[.int .i64 y.d,.int .i64 y.a,.slice D y.b.length cd] 125))):=Lib.hid ⟨c' 0,c' 1,hbr.alloc hbr.size _⟩
      have k0:(0:Int) ≤ (j:Int):=by omega
      have k1:(j:Int) < (l.length:Int):=by omega
      have k2:(j:Int) ≤ (c:Int):=by omega
      clear hrp c'
      by_cases t1:y.d < 0
      ·have R:=Lib.hid (HN.out (may_nope (.inl t1)))
       go_wp2_with (
        ((with_reducible refine (id ?_:wpList _ _ _ (⟨some 26,_,_,_,_,_⟩::_) _ _));refine wpList_load_mid rfl 125 _ (by rfl) g (j * 3) (by rfl) [.int .i64 y.d,.int .i64 y.a,.slice D y.b.length cd] _ Hrp.out Tryz.underlying125 rfl (by kernel_rfl) ?_))
       go_ret
       exact ⟨by rw [R.out];rfl,S0.out.2.2⟩
      ·by_cases t2:8 ≤ y.d
       ·have R:=Lib.hid (HN.out (may_nope (.inr (.inl t2))))
        go_wp2_with (
         ((with_reducible refine (id ?_:wpList _ _ _ (⟨some 26,_,_,_,_,_⟩::_) _ _));refine wpList_load_mid rfl 125 _ (by rfl) g (j * 3) (by rfl) [.int .i64 y.d,.int .i64 y.a,.slice D y.b.length cd] _ Hrp.out Tryz.underlying125 rfl (by kernel_rfl) ?_))
        go_ret
        exact ⟨by rw [R.out];rfl,S0.out.2.2⟩
       ·by_cases t3:y.a < 36
        ·have R:=Lib.hid (HN.out (may_nope (.inr (.inr (.inl t3)))))
         go_wp2_with (
          ((with_reducible refine (id ?_:wpList _ _ _ (⟨some 26,_,_,_,_,_⟩::_) _ _));refine wpList_load_mid rfl 125 _ (by rfl) g (j * 3) (by rfl) [.int .i64 y.d,.int .i64 y.a,.slice D y.b.length cd] _ Hrp.out Tryz.underlying125 rfl (by kernel_rfl) ?_))
         go_ret
         exact ⟨by rw [R.out];rfl,S0.out.2.2⟩
        ·by_cases t4:52 ≤ y.a
         ·have R:=Lib.hid (HN.out (may_nope (.inr (.inr (.inr (.inl t4))))))
          go_wp2_with (
           ((with_reducible refine (id ?_:wpList _ _ _ (⟨some 26,_,_,_,_,_⟩::_) _ _));refine wpList_load_mid rfl 125 _ (by rfl) g (j * 3) (by rfl) [.int .i64 y.d,.int .i64 y.a,.slice D y.b.length cd] _ Hrp.out Tryz.underlying125 rfl (by kernel_rfl) ?_))
          go_ret
          exact ⟨by rw [R.out];rfl,S0.out.2.2⟩
         ·by_cases t5:y.b.length=32
          ·have HG:=Lib.hid (HF.out (may_yes t1 t2 t3 t4 t5))
           have t6:((y.b.length:Int) != 32)=false:=by rw [t5];rfl
           clear t5
           go_wp2_with (
            ((with_reducible refine (id ?_:wpList _ _ _ (⟨some 26,_,_,_,_,_⟩::_) _ _));refine wpList_load_mid rfl 125 _ (by rfl) g (j * 3) (by rfl) [.int .i64 y.d,.int .i64 y.a,.slice D y.b.length cd] _ Hrp.out Tryz.underlying125 rfl (by kernel_rfl) ?_))
           clear t1 t2 t3 t4 t6
           obtain ⟨p,hp⟩:∃ p,wr.heap.size=p:=⟨_,rfl⟩
           rw [hp] at S0
           try rw [hp]
           go_name_world w5 hw5
           rw [hw5] at S0
           clear hw5 hp
           go_loopw [55] (fun i wi=>∃ k:Nat,k ≤ j∧i=.int .i64 k∧(∀ q,q < k→meetsB y (itN l q)=false)∧CrS w p y wi) (fun i _=>j - (intOf i).toNat)
           case atStart=>exact ⟨0,Nat.zero_le _,rfl,fun q hq=>absurd hq (Nat.not_lt_zero _),S0.out⟩
           case round =>
            obtain ⟨k,hk,rfl,hno,hst⟩:=hrel
            rename World=>wi
            have Hno:=Lib.hid hno
            have Hst:=Lib.hid hst
            clear hno hst
            by_cases hkj:k < j
            ·obtain ⟨D2,cd2,hrp2,_⟩:=hc k (by omega)
             have HK:=Lib.hid (HW.out k hkj)
             have HM:=Lib.hid (fun (q:meetsB y (itN l k)=false)=>show ∀ r,r < k + 1→meetsB y (itN l r)=false from fun r hr=>by
              by_cases e:r=k
              ·subst e;exact q
              ·exact Hno.out r (by omega))
             generalize itN l k=z at hrp2 HK HM
             have Hrp2:=Lib.hid (rangeAt_keep (w':=wi) hrp2 fun k=>Hst.out.2.2.cell hg)
             have S1:=Lib.hid (Hst.out.later (below1 wi (.cells #[.int .i64 z.d,.int .i64 z.a,.slice D2 z.b.length cd2] 125)))
             obtain ⟨q0,q1,_⟩:=S1.out
             have i0:(0:Int) ≤ (k:Int):=by omega
             have i1:(k:Int) < (j:Int):=by omega
             clear hrp2
             cases e1:(y.d == z.d)
             ·have e2:meetsB y z=false:=by rw [← Bool.not_eq_true,meetsB_iff];intro h;rw [h.1] at e1;simp at e1
              have R:=Lib.hid (HM.out e2)
              clear e2
              go_wp2_with (
               ((with_reducible refine (id ?_:wpList _ _ _ (⟨some 58,_,_,_,_,_⟩::_) _ _));refine wpList_load_mid rfl 125 _ (by rfl) g (k * 3) (by rfl) [.int .i64 z.d,.int .i64 z.a,.slice D2 z.b.length cd2] _ Hrp2.out Tryz.underlying125 rfl (by kernel_rfl) ?_))
              go_roundw
              case rel=>exact ⟨k + 1,by omega,by go_num,R.out,S1.out⟩
              case measure=>simp [intOf];omega
             ·cases e2:(y.a == z.a)
              ·have e3:meetsB y z=false:=by rw [← Bool.not_eq_true,meetsB_iff];intro h;rw [h.2] at e2;simp at e2
               have R:=Lib.hid (HM.out e3)
               clear e3
               go_wp2_with (
                ((with_reducible refine (id ?_:wpList _ _ _ (⟨some 58,_,_,_,_,_⟩::_) _ _));refine wpList_load_mid rfl 125 _ (by rfl) g (k * 3) (by rfl) [.int .i64 z.d,.int .i64 z.a,.slice D2 z.b.length cd2] _ Hrp2.out Tryz.underlying125 rfl (by kernel_rfl) ?_))
               go_roundw
               case rel=>exact ⟨k + 1,by omega,by go_num,R.out,S1.out⟩
               case measure=>simp [intOf];omega
              ·have e3:meetsB y z=true:=(meetsB_iff y z).2 ⟨by simpa using e1,by simpa using e2⟩
               have R:=Lib.hid (HK.out e3)
               clear e3
               go_wp2_with (
                ((with_reducible refine (id ?_:wpList _ _ _ (⟨some 58,_,_,_,_,_⟩::_) _ _));refine wpList_load_mid rfl 125 _ (by rfl) g (k * 3) (by rfl) [.int .i64 z.d,.int .i64 z.a,.slice D2 z.b.length cd2] _ Hrp2.out Tryz.underlying125 rfl (by kernel_rfl) ?_))
               go_ret
               exact ⟨by rw [R.out];rfl,S1.out.2.2⟩
            ·obtain rfl:k=j:=by omega
             have R:=Lib.hid (HG.out Hno.out)
             go_wp2
             go_roundw
             case rel=>exact ⟨k + 1,by omega,by go_num,R.out,Hst.out.2.2⟩
             case measure=>simp [intOf];omega
          ·have R:=Lib.hid (HN.out (may_nope (.inr (.inr (.inr (.inr t5))))))
           have t6:((y.b.length:Int) != 32)=true:=by rw [bne_iff_ne];omega
           clear t5
           go_wp2_with (
            ((with_reducible refine (id ?_:wpList _ _ _ (⟨some 26,_,_,_,_,_⟩::_) _ _));refine wpList_load_mid rfl 125 _ (by rfl) g (j * 3) (by rfl) [.int .i64 y.d,.int .i64 y.a,.slice D y.b.length cd] _ Hrp.out Tryz.underlying125 rfl (by kernel_rfl) ?_))
           go_ret
           exact ⟨by rw [R.out];rfl,S0.out.2.2⟩
     ·obtain rfl:j=l.length:=by omega
      have R:=Lib.hid (HE.out Hall.out)
      go_wp2
      go_ret
      exact ⟨by rw [R.out];rfl,hbr⟩
   ·have R:=Lib.hid (recOk_no (s:=s) (l:=l) (by omega))
    have h3':¬ (l.length:Int) ≤ 3:=by omega
    clear h3
    go_enter Tryz.func119,Tryz.ntmps119
    go_wp2
    go_ret
    exact ⟨by rw [R.out];rfl,Below.refl _ _⟩
  ·have R:=Lib.hid (recOk_no (s:=s) (l:=l) (by omega))
   go_enter Tryz.func119,Tryz.ntmps119
   go_wp2
   go_ret
   exact ⟨by rw [R.out];rfl,Below.refl _ _⟩
 ·have R:=Lib.hid (recOk_no (s:=s) (l:=l) (by omega))
  go_enter Tryz.func119,Tryz.ntmps119
  go_wp2
  go_ret
  exact ⟨by rw [R.out];rfl,Below.refl _ _⟩
end Go.Proofs.YtenkkdnepmoihaaGreatDoor
end
section
set_option maxRecDepth 20000
set_option linter.unusedVariables false
set_option linter.unusedSimpArgs false
namespace Go.Proofs.YtenkkdnepmoihaaGreatDoor
open Go.RowKit
def RowsZ (w:World) (lo:Nat) (va vb:Value) (xs:List Value) (rs:List (List UInt8)):Prop :=
 xs.length=rs.length∧∀ k,k < rs.length→∃ A c,xs[k]?=some (.slice A (rs.getD k []).length c)∧(rs.getD k []).length ≤ c∧RdBF lo w A (rs.getD k [])∧(0 < (rs.getD k []).length→∀ a,A=some a→va.ownBlock ≠ some a.block∧vb.ownBlock ≠ some a.block)
section
variable {w w':World} {lo:Nat} {va vb va' vb':Value} {xs:List Value} {rs:List (List UInt8)}
theorem RowsZ.nil (w:World) (lo:Nat) (va vb:Value):RowsZ w lo va vb [] []:=⟨rfl,fun k hk=>by simp at hk⟩
theorem RowsZ.swap (h:RowsZ w lo va vb xs rs):RowsZ w lo vb va xs rs:=⟨h.1,fun k hk=>by
 obtain ⟨A,c,h1,h2,h3,h4⟩:=h.2 k hk
 exact ⟨A,c,h1,h2,h3,fun h0 a ha=>(h4 h0 a ha).symm⟩⟩
theorem RowsZ.below (h:RowsZ w lo va vb xs rs) (hb:Below w.heap.size w w'):RowsZ w' lo va vb xs rs:=⟨h.1,fun k hk=>by
 obtain ⟨A,c,h1,h2,h3,h4⟩:=h.2 k hk
 exact ⟨A,c,h1,h2,h3.keep hb.size fun _ _ hp=>hb.cell hp,h4⟩⟩
theorem RowsZ.grow (h:RowsZ w lo va vb xs rs) (hg:w.grownBy w' va.ownBlock) (ha:va'.ownBlock=va.ownBlock∨va'.ownBlock=some w.heap.size):RowsZ w' lo va' vb xs rs:=⟨h.1,fun k hk=>by
 obtain ⟨A,c,h1,h2,h3,h4⟩:=h.2 k hk
 refine ⟨A,c,h1,h2,⟨h3.1,fun h0=>?_⟩,fun h0 a ea=>⟨?_,(h4 h0 a ea).2⟩⟩
 ·obtain ⟨b,off,e,hb,hlo,hc⟩:=h3.2 h0
  have hne:=(h4 h0 _ e).1
  refine ⟨b,off,e,by have:=hg.size;omega,hlo,fun j hj=>?_⟩
  rw [← hc j hj]
  exact World.cell?_of_block (w:=w) (hg.block b hb (fun q=>hne q.symm))
 ·rcases ha with q | q
  ·rw [q];exact (h4 h0 a ea).1
  ·obtain ⟨b,off,e,hb,_⟩:=h3.2 h0
   rw [ea] at e;injection e with e
   rw [q,e]
   intro q2;injection q2 with q2
   have q3:w.heap.size=b:=q2
   omega⟩
theorem RowsZ.snoc (h:RowsZ w lo va vb xs rs) {A:Option Addr} {c:Nat} {bs:List UInt8} (hc:bs.length ≤ c) (hr:RdBF lo w A bs) (hne:0 < bs.length→∀ a,A=some a→va.ownBlock ≠ some a.block∧vb.ownBlock ≠ some a.block):RowsZ w lo va vb (xs ++ [.slice A bs.length c]) (rs ++ [bs]) :=
 ⟨by simp [h.1],fun k hk=>by
  by_cases hk2:k < rs.length
  ·obtain ⟨A',c',h1,h2,h3,h4⟩:=h.2 k hk2
   have e:(rs ++ [bs]).getD k []=rs.getD k []:=by simp [List.getD_eq_getElem?_getD,List.getElem?_append_left hk2]
   rw [e,List.getElem?_append_left (by rw [h.1];exact hk2)]
   exact ⟨A',c',h1,h2,h3,h4⟩
  ·obtain rfl:k=rs.length:=by simp at hk;omega
   have e:(rs ++ [bs]).getD rs.length []=bs:=by simp [List.getD_eq_getElem?_getD]
   rw [e]
   exact ⟨A,c,by rw [← h.1];simp,hc,hr,hne⟩⟩
end
structure TwoV (lo:Nat) (w:World) (va vb:Value) (ps qs:List (List UInt8)) (xs ys:List Value):Prop where
 a:w.ownsRow lo 35 1 va ps.length xs
 b:w.ownsRow lo 35 1 vb qs.length ys
 d:∀ k,va.ownBlock=some k→vb.ownBlock ≠ some k
 ra:RowsZ w lo va vb xs ps
 rb:RowsZ w lo va vb ys qs
section
variable {w w':World} {lo:Nat} {va vb:Value} {ps qs:List (List UInt8)} {xs ys:List Value}
theorem TwoV.nil (lo:Nat) (w:World):TwoV lo w (.slice none 0 0) (.slice none 0 0) [] [] [] []:=⟨World.ownsRow_nil _ _ _ _,World.ownsRow_nil _ _ _ _,(fun k h=>by cases h),RowsZ.nil _ _ _ _,RowsZ.nil _ _ _ _⟩
theorem TwoV.swap (h:TwoV lo w va vb ps qs xs ys):TwoV lo w vb va qs ps ys xs:=⟨h.b,h.a,fun k q e=>h.d k e q,h.rb.swap,h.ra.swap⟩
theorem TwoV.below (h:TwoV lo w va vb ps qs xs ys) (hb:Below w.heap.size w w'):TwoV lo w' va vb ps qs xs ys:=⟨h.a.kept (grown_none hb) (Classical.em _),h.b.kept (grown_none hb) (Classical.em _),h.d,h.ra.below hb,h.rb.below hb⟩
theorem TwoV.lt (h:TwoV lo w va vb ps qs xs ys):(∀ k,va.ownBlock=some k→lo ≤ k∧k < w.heap.size)∧(∀ k,vb.ownBlock=some k→lo ≤ k∧k < w.heap.size):=⟨h.a.lt,h.b.lt⟩
theorem TwoV.rdA (h:TwoV lo w va vb ps qs xs ys) (hl:ps.length ≤ 1000):∃ A c,va=.slice A ps.length c∧ps.length ≤ c∧RdC w w.heap.size A ps:=by
 rcases h.a.2 with ⟨rfl,h0⟩ | ⟨g,cap,cur,rfl,hb,hg,hc,_⟩
 ·exact ⟨none,0,by rw [h0],by omega,by omega,fun q=>by omega⟩
 ·refine ⟨some ⟨g,0,none⟩,cap,rfl,hc,by omega,fun _=>⟨g,0,rfl,(h.a.lt g rfl).2,fun k hk=>?_⟩⟩
  obtain ⟨A,c,h1,h2,h3,_⟩:=h.ra.2 k hk
  refine ⟨A,c,?_,h2,?_⟩
  ·rw [Nat.zero_add]
   exact (h.a.cellAt k (by omega)).trans h1
  ·exact ⟨h3.1,fun h0=>by obtain ⟨b,off,e,hb,_,hcc⟩:=h3.2 h0;exact ⟨b,off,e,hb,hcc⟩⟩
end
theorem rdbf_grown {lo:Nat} {w w':World} {A:Option Addr} {bs:List UInt8} {ob:Option Nat} (h:RdBF lo w A bs) (hg:w.grownBy w' ob) (hne:0 < bs.length→∀ a,A=some a→ob ≠ some a.block):RdBF lo w' A bs :=
 ⟨h.1,fun h0=>by
  obtain ⟨b,off,e,hb,hlo,hc⟩:=h.2 h0
  have hn:=hne h0 _ e
  refine ⟨b,off,e,by have:=hg.size;omega,hlo,fun j hj=>?_⟩
  rw [← hc j hj]
  exact World.cell?_of_block (w:=w) (hg.block b hb (fun q=>hn q.symm))⟩
theorem wpList_two_A {w:World} {ops:Array Oper} {rest:List Oper} {o:Oper} {a:Act} {Q:Exit→Act→World→Prop} (hw:Region.wanted o (yielded ops a.tmps)=true) (s x:Operand) (t:TypeId)
    (ho:o.op=.call { callee:=.builtin .append,args:=#[s,x],argTypes:=#[t,t] }) (ht:Tryz.prog.underlying t=some (.slice 35)) (lo:Nat) (va vb:Value) (ps qs:List (List UInt8)) (xs ys:List Value) (hs:a.eval s=va) (h2:TwoV lo w va vb ps qs xs ys) (g:Nat) (t':TypeId) (f':Nat × Nat) (A:Option Addr) (c:Nat) (y:List UInt8)
    (hx:a.eval x=.slice (some ⟨g,0,none⟩) 1 1) (hg:w.heap[g]?=some (.cells #[.slice A y.length c] t' f')) (hc:y.length ≤ c) (hy:RdBF lo w A y) (hne:0 < y.length→∀ a,A=some a→va.ownBlock ≠ some a.block∧vb.ownBlock ≠ some a.block) (hn:ps.length ≤ 1000000) (hlo:lo ≤ w.heap.size)
    (h:∀ v' w',TwoV lo w' v' vb (ps ++ [y]) qs (xs ++ [.slice A y.length c]) ys→w.grownBy w' va.ownBlock→(v'.ownBlock=va.ownBlock∨v'.ownBlock=some w.heap.size)→wpList Tryz.prog ops Q rest (a.put o.dst v') w'):wpList Tryz.prog ops Q (o::rest) a w:=by
 have hgl:=(Array.getElem?_eq_some_iff.1 hg).1
 refine wpList_append_V hw s x t ho lo 35 (.slice none 0 0) 24 ht info_row2 rfl va ps.length xs hs h2.a w.heap.size (some ⟨g,0,none⟩) 1 1 [.slice A y.length c] hx rfl (fun _=>⟨g,0,rfl,by omega,fun j hj=>by obtain rfl:j=0:=(by simp at hj;omega);exact cell_of_row _ _ _ _ _ _ hg⟩) (fun u hu=>by simp at hu;subst hu;rfl) (by unfold maxLen;omega) (by omega) hlo fun v' w' o' g' at'=>?_
 refine h v' w' ⟨by rw [List.length_append];exact o',h2.b.kept g' ?_,fun k hk e=>?_,(h2.ra.snoc hc hy hne).grow g' at',h2.rb.grow g' at'⟩ g' at'
 ·cases hv:vb.ownBlock with
  | none=>exact .inl rfl
  | some q=>exact .inr fun e=>h2.d q e.symm hv
 ·rcases at' with q | q
  ·rw [q] at hk;exact h2.d k hk e
  ·rw [q] at hk;injection hk with hk
   have:=(h2.b.lt k e).2
   omega
end Go.Proofs.YtenkkdnepmoihaaGreatDoor
end
