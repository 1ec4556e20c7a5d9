/- Texts put together: RowLose, RefNums, ItSet, RefCrc. -/
import Derived.Test.YtenkkdnepmoihaaGreatDoorUcaj
import Derived.Test.YtenkkdnepmoihaaGreatDoorUcak
import Derived.Test.YtenkkdnepmoihaaGreatDoorUcag
import Derived.Test.YtenkkdnepmoihaaGreatDoorUcai
import Derived.Laws.OwnMore
import Derived.Test.YtenkkdnepmoihaaGreatDoorUcah
import Derived.Test.YtenkkdnepmoihaaGreatDoorUcac
import Derived.Test.YtenkkdnepmoihaaGreatDoorUcaa
import Derived.Deep.DeepMust
section
set_option linter.unusedVariables false
set_option linter.unusedSimpArgs false
namespace Go.Proofs.YtenkkdnepmoihaaGreatDoor
def emptyB (xs:List (List UInt8)) (i:Nat):Bool:=(xs.getD i []).length == 0
theorem missB_cnt (rs:List (List UInt8)):(missB rs).length=cntB rs.length (emptyB rs):=rfl
theorem missB_pair (p q:List UInt8):(missB [p,q]).length=(if p.length=0 then 1 else 0) + (if q.length=0 then 1 else 0):=by
 rw [missB_two,List.length_append]
 split <;> split <;> rfl
theorem data_cnt {l d c r:Int} (xs:List (List UInt8)):(missB (dataL l d c r xs)).length=cntB (roW l d) fun k=>emptyB xs (roS (roD d) (roF l d c r) k):=by
 rw [missB_cnt,dataL_len]
 exact cntB_congr fun k hk=>by unfold emptyB;rw [dataL_get hk]
theorem all_cnt {l d c r:Int} (R:Ro l d c r) (xs:List (List UInt8)) :
    cntB (roD d) (emptyB xs)=(missB (dataL l d c r xs)).length + (if (parL l d c r xs).length=0 then 1 else 0) + (if l=6∧(parQ l d c r xs).length=0 then 1 else 0):=by
 rw [cntB_roS R.hF,data_cnt]
 rcases R.lv with ⟨h5,hD⟩ | ⟨h6,hD⟩
 ·rw [if_neg (by omega:¬ (l=6∧_))]
  unfold parL
  generalize roF l d c r=F
  rw [hD,cntB_succ]
  unfold emptyB
  by_cases h:(xs.getD (roS (roW l d + 1) F (roW l d)) []).length=0
  ·rw [if_pos (by simpa using h),if_pos h];all_goals omega
  ·rw [if_neg (by simpa using h),if_neg h];all_goals omega
 ·unfold parL parQ
  rw [if_pos h6]
  generalize roF l d c r=F
  rw [hD,cntB_succ,cntB_succ]
  unfold emptyB
  by_cases h:(xs.getD (roS (roW l d + 2) F (roW l d)) []).length=0
  ·by_cases h2:(xs.getD (roS (roW l d + 2) F (roW l d + 1)) []).length=0
   ·rw [if_pos (by simpa using h2),if_pos (by simpa using h),if_pos h,if_pos ⟨h6,h2⟩];all_goals omega
   ·rw [if_neg (by simpa using h2),if_pos (by simpa using h),if_pos h,if_neg fun e=>h2 e.2];all_goals omega
  ·by_cases h2:(xs.getD (roS (roW l d + 2) F (roW l d + 1)) []).length=0
   ·rw [if_pos (by simpa using h2),if_neg (by simpa using h),if_neg h,if_pos ⟨h6,h2⟩];all_goals omega
   ·rw [if_neg (by simpa using h2),if_neg (by simpa using h),if_neg h,if_neg fun e=>h2 e.2];all_goals omega
theorem lose_ok {l d c r:Int} {rs xs:List (List UInt8)} (h:fillOk l d c r rs=true) (hl:xs.length=roD d) (hx:∀ i,i < roD d→(xs.getD i []).length=0∨xs.getD i []=(fillL (roD d) (roF l d c r) rs).getD i [])
    (hc:((cntB (roD d) (emptyB xs):Nat):Int) ≤ l - 4):roTake l d c r xs=some rs:=by
 have R:=ro_of (fillOk_yes h).1
 refine take_back h hl hx ?_
 have hc2:=all_cnt R xs
 rw [missB_pair]
 have hlv:=R.lv
 by_cases h6:l=6
 ·split at hc2 <;> split at hc2 <;> split <;> split <;> omega
 ·have h5:l=5:=by omega
  have hq:(parQ l d c r xs).length=0:=by unfold parQ;rw [if_neg h6];rfl
  rw [if_pos hq]
  rw [if_neg (show ¬ (l=6∧(parQ l d c r xs).length=0) from fun e=>h6 e.1)] at hc2
  split at hc2 <;> split <;> omega
theorem cntB_one_le (n k:Nat):cntB n (fun i=>decide (i=k)) ≤ 1:=by
 by_cases h:k < n
 ·rw [cntB_one h];exact Nat.le_refl _
 ·rw [cntB_none fun i hi=>by simp;omega];omega
end Go.Proofs.YtenkkdnepmoihaaGreatDoor
end
section
set_option linter.unusedVariables false
set_option linter.unusedSimpArgs false
set_option maxRecDepth 20000
namespace Go.Proofs.YtenkkdnepmoihaaGreatDoor
open Go.RowKit
theorem step_append_J {w:World} {ops:Array Oper} {o:Oper} {a:Act} {K:Act→World→Prop} {Q:Exit→Act→World→Prop} {E:Prop} (hgd:o.guard=none) (s x:Operand)
    (ho:o.op=.call { callee:=.builtin .append,args:=#[s,x],argTypes:=#[22,22] })
    (base:Nat) (v:Value) (zs:List Int) (hs:a.eval s=v) (hown:OwJ w base v zs) (hl:zs.length ≤ 1000000) (g:Nat) (z:Int) (hx:a.eval x=.slice (some ⟨g,0,none⟩) 1 1) (hg:w.cell? ⟨g,0,none⟩=some (.int .i64 z))
    (hbase:base ≤ w.heap.size)
    (h:∀ v' w',OwJ w' base v' (zs ++ [z])→w.grownBy w' v.ownBlock→K (a.put o.dst v') w') :
    if Region.wanted o (yielded ops a.tmps)=true then Oper.wp Tryz.prog o a w K Q else E:=by
 obtain ⟨i,hi,hzz⟩:=Option.map_eq_some_iff.1 info_z
 simp only [Prod.mk.injEq] at hzz
 obtain ⟨hz,hsz,hb⟩:=hzz
 refine step_append_lies w hgd s x 22 ho base 3 i (.int .i64 0) 1 8 Tryz.underlying22 hi hz hsz hb rfl (by omega) v zs.length (zs.map zv) hs hown ⟨g,0,none⟩ 1 1 [zv z] hx rfl (fun j u hj=>?_) (fun u hu=>?_) (by omega) (by unfold maxLen;omega) (by omega) hbase _ rfl (fun g' cap w' h1 h2 _ _=>h _ w' ?_ h2)
 ·rcases j with _ | j
  ·simp at hj;subst hj;exact hg
  ·simp at hj
 ·simp at hu;subst hu;rfl
 ·unfold OwJ
  rw [List.length_append,List.map_append]
  exact h1
theorem OwJ.lt {w:World} {B:Nat} {v:Value} {zs:List Int} (h:OwJ w B v zs):∀ k,v.ownBlock=some k→B ≤ k∧k < w.heap.size:=World.ownsRow.lt h
theorem GS.grown {w0 W W':World} {B b:Nat} {l d c:Int} {row:Option Nat} (h:GS w0 B b l d c W) (hg:W.grownBy W' row) (hB:B ≤ W.heap.size) (hr:∀ k,row=some k→B ≤ k∧k ≠ b):GS w0 B b l d c W':=by
 obtain ⟨h1,h2,h3,F⟩:=h
 have hb:W'.heap[b]?=W.heap[b]?:=hg.block b (World.block_lt_of_cell? _ _ h1) (fun e=>(hr b e.symm).2 rfl)
 have hc:∀ o,W'.cell? ⟨b,o,none⟩=W.cell? ⟨b,o,none⟩:=fun o=>by unfold World.cell?;simp only [hb]
 exact ⟨(hc 0).trans h1,(hc 1).trans h2,(hc 2).trans h3,F.grown hg hB fun k e=>(hr k e).1⟩
def plFirst (l d c r:Int) (k:Nat):List Int:=(List.range k).map (fun j:Nat=>plN l d c r (j:Int))
theorem plFirst_succ (l d c r:Int) (k:Nat):plFirst l d c r k ++ [plN l d c r (k:Int)]=plFirst l d c r (k + 1):=by simp [plFirst,List.range_succ]
theorem plFirst_len (l d c r:Int) (k:Nat):(plFirst l d c r k).length=k:=by simp [plFirst]
theorem plFirst_all {l d c r:Int} {n:Nat} (h:plOk l d c r=true) (hn:gWid l d c=n):plFirst l d c r n=plNums l d c r:=by
 have hg:=(plOk_yes h).1
 rw [gWid_yes hg] at hn
 unfold plNums plFirst
 rw [if_pos h,hn]
 simp
set_option maxHeartbeats 1000000 in
theorem refNumbers_own (l d c r:Int) (w:World) (HT:Hid (plOk l d c r=true)) (hl:(-9223372036854775808 ≤ l∧l ≤ 9223372036854775807)) (hd:(-9223372036854775808 ≤ d∧d ≤ 9223372036854775807)) (hc:(-9223372036854775808 ≤ c∧c ≤ 9223372036854775807)) (hr:(-9223372036854775808 ≤ r∧r ≤ 9223372036854775807)) :
    Calls Tryz.prog 12 #[.agg #[.int .i64 l,.int .i64 d,.int .i64 c],.int .i64 r] w fun e w'=>∃ v,e=.returned v∧OwJ w' w.heap.size v (plNums l d c r)∧Below w.heap.size w w':=by
 have G:=gat_new w l d c 24 (0,0)
 obtain ⟨hg,h0,h1⟩:=plOk_yes HT.out
 have hb6:=gOk_bd hg
 have HW:=Lib.hid (fun W=>refWidth_any l d c W hl hd hc)
 have hw:=gWid_bd l d c
 obtain ⟨n,hn⟩:∃ n:Nat,gWid l d c=n:=⟨(gWid l d c).toNat,by omega⟩
 have Hall:=Lib.hid (plFirst_all HT.out hn)
 have HN:Hid (∀ k:Nat,plN l d c r (k:Int)=(r / c * (n:Int) + k) * c + r % c):=Lib.hid fun k=>by rw [← hn,gWid_yes hg];rfl
 rw [hn] at HW hw
 have hq:=quo_bd 16 h0 h1 (show 1 ≤ c by omega)
 have hm:=rem_bd r (show 1 ≤ c by omega)
 have z3:r.tdiv c=r / c:=Int.tdiv_eq_ediv_of_nonneg h0
 have z4:r.tmod c=r % c:=Int.tmod_eq_emod_of_nonneg h0
 have n2:¬ c=0:=by omega
 have z5:IntKind.i64.wrap (r / c)=r / c:=IntWalk.i64_in _ (by omega)
 have hx:0 ≤ r / c * (n:Int)∧r / c * (n:Int) ≤ 112:=⟨Int.mul_nonneg hq.1 hw.1,by
  have:=Int.mul_le_mul (show r / c ≤ 16 by omega) hw.2 hw.1 (by omega)
  omega⟩
 have z1:IntKind.i64.wrap (r / c * (n:Int))=r / c * (n:Int):=IntWalk.i64_in _ (by omega)
 clear hn hg h0 h1
 go_enter Tryz.func12,Tryz.ntmps12
 go_wp2_with fail
 (with_reducible refine (refFine_yes l d c r _ HT hl hd hc hr).mono ?_);rintro e w1 ⟨rfl,hb⟩
 have S1:=GS.later (w0:=w) (B:=w.heap.size) ⟨G.1,G.2.1,G.2.2,below1 w _⟩ hb
 have q0:w.heap.size < w1.heap.size:=World.block_lt_of_cell? _ _ S1.1
 clear hb G
 go_wp2_with fail
 have H0:OwJ w1 (w.heap.size + 1) (.slice none 0 0) (plFirst l d c r 0):=World.ownsRow_nil _ _ _ _
 go_loopw [5,6] (fun v i wr=>∃ k:Nat,k ≤ n∧i=.int .i64 k∧OwJ wr (w.heap.size + 1) v (plFirst l d c r k)∧GS w w.heap.size w.heap.size l d c wr) (fun _ i _=>n - (intOf i).toNat)
 case atStart=>exact ⟨0,Nat.zero_le _,rfl,H0,S1⟩
 case round =>
  obtain ⟨k,hk,rfl,hown,hS⟩:=hrel
  obtain ⟨g1,g2,g3,F⟩:=hS
  go_wp2_with fail
  (with_reducible refine (HW.out _).mono ?_);rintro e w2 ⟨rfl,hb⟩
  have S2:=GS.later (w0:=w) (B:=w.heap.size) ⟨g1,g2,g3,F⟩ hb
  have hown2:=hown.below hb
  clear hb g1 g2 g3 F hown
  by_cases hlt:k < n
  ·have i0:(0:Int) ≤ (k:Int):=by omega
   have i1:(k:Int) < (n:Int):=by omega
   have Hk:=Lib.hid (HN.out k)
   have hy:0 ≤ (r / c * (n:Int) + (k:Int)) * c∧(r / c * (n:Int) + (k:Int)) * c ≤ 120 * 4:=⟨Int.mul_nonneg (by omega) (by omega),Int.mul_le_mul (by omega) (by omega) (by omega) (by omega)⟩
   have y1:IntKind.i64.wrap (r / c * (n:Int) + (k:Int))=r / c * (n:Int) + (k:Int):=IntWalk.i64_in _ (by omega)
   have y2:IntKind.i64.wrap ((r / c * (n:Int) + (k:Int)) * c)=(r / c * (n:Int) + (k:Int)) * c:=IntWalk.i64_in _ (by omega)
   have y3:IntKind.i64.wrap ((r / c * (n:Int) + (k:Int)) * c + r % c)=plN l d c r (k:Int):=by rw [Hk.out];exact IntWalk.i64_in _ (by omega)
   have hlen:=plFirst_len l d c r k
   have Hs:=Lib.hid (plFirst_succ l d c r k)
   generalize plN l d c r (k:Int)=z at y3 Hs
   obtain ⟨g1,g2,g3,F⟩:=S2
   go_wp2_with fail
   have S2:GS w w.heap.size w.heap.size l d c w2:=⟨g1,g2,g3,F⟩
   clear g1 g2 g3 F
   have zb:=S2.2.2.2.size
   have q2:w.heap.size < w2.heap.size:=World.block_lt_of_cell? _ _ S2.1
   go_region_held3 (GS w w.heap.size w.heap.size l d c)
    (first | assumption | exact GS.drew ‹_› | exact GS.later S3 (below1 _ _) | exact S9)
    (first
     |(go_at_call 41;(with_reducible refine (HW.out _).mono ?_);rintro e w3 ⟨rfl,hb⟩;have S3:=(GS.drew S2).later hb;have hown3:=OwJ.below (w:=w2.drew) hown2 hb;have q3:w.heap.size + 1 ≤ w3.heap.size:=Nat.le_trans q2 hb.size;clear hb)
     |(refine step_append_J (by rfl) _ _ (by rfl) (w.heap.size + 1) u5 (plFirst l d c r k) (by rfl) (hown3.below (below1 _ _)) (by omega) _ z (by rfl) (cell_of_row _ _ 0 _ _ _ (hp_new _ _ _ rfl)) (Nat.le_trans q3 (below1 _ _).size) ?_
       intro v2 w9 hown9 hg9
       have S9:=GS.grown (GS.later S3 (below1 w3 (.cells #[.int .i64 z] 3))) hg9 (Nat.le_trans (Nat.le_of_lt q3) (below1 _ _).size) (fun j hj=>by have:=(hown3.lt j hj).1;omega)))
   rw [Hs.out] at hown9
   go_wp2
   go_roundw
   case rel=>exact ⟨k + 1,by omega,by go_num,hown9,S9⟩
   case measure=>simp [intOf];omega
  ·obtain rfl:k=n:=by omega
   rw [Hall.out] at hown2
   go_wp2
   go_ret
   exact ⟨_,rfl,hown2.le (by omega),S2.2.2.2⟩
end Go.Proofs.YtenkkdnepmoihaaGreatDoor
end
section
set_option linter.unusedVariables false
set_option linter.unusedSimpArgs false
namespace Go.Proofs.YtenkkdnepmoihaaGreatDoor
open Go.RowKit
section
variable {e:TypeId} {w:World} {B lo g n cap:Nat} {l:List It}
end
end Go.Proofs.YtenkkdnepmoihaaGreatDoor
end
section
set_option maxRecDepth 8000
namespace Go.Proofs.YtenkkdnepmoihaaGreatDoor
open Go.RowKit
theorem and1 (s:Nat) (h:s < 4294967296):bits .and .u32 (s:Int) 1=((s % 2:Nat):Int):=by
 have:=u32_and_nat s 1 h (by decide)
 rw [show ((1:Nat):Int)=1 from rfl] at this
 rw [this,nat_mask1]
theorem shr1_xor (s:Nat) (h:s < 4294967296):bits .xor .u32 ((s:Int) / 2) 2197175160=(((s / 2) ^^^ 2197175160:Nat):Int):=by
 have:=u32_xor_nat (s / 2) 2197175160 (by omega) (by decide)
 rw [← this];rfl
theorem not_u32 (y:Nat) (h:y < 4294967296):bits .xor .u32 IntKind.u32.max (y:Int)=((y ^^^ 4294967295:Nat):Int):=by
 rw [Nat.xor_comm]
 exact u32_xor_nat 4294967295 y (by decide) h
set_option maxHeartbeats 800000 in
theorem refSum_any (A:Option Addr) (rs:List (List UInt8)) (n cp:Nat) (w:World) (hn:rs.length=n) (hr:RdR w w.heap.size A rs) :
    Calls Tryz.prog 140 #[.slice A n cp] w fun e w'=>e=.returned (.int .u32 ((sumR rs:Nat):Int))∧w'=w:=by
 subst hn
 have hm:=hr.1
 have Hs:Hid (sumR rs=feedR 4294967295 rs ^^^ 4294967295):=rfl
 have hlast:=feedR_lt (x:=4294967295) rs (by decide)
 go_enter Tryz.func140,Tryz.ntmps140
 go_wp2
 go_loop [3,11] (fun v i=>∃ k:Nat,k ≤ rs.length∧i=.int .i64 k∧v=.int .u32 ((feedR 4294967295 (rs.take k):Nat):Int)) (fun _ i=>rs.length - (intOf i).toNat)
 case atStart=>exact ⟨0,Nat.zero_le _,rfl,rfl⟩
 case round =>
  obtain ⟨k,hk,rfl,rfl⟩:=hrel
  have hy:=feedR_lt (x:=4294967295) (rs.take k) (by decide)
  by_cases hlt:k < rs.length
  ·obtain ⟨b,off,rfl,hb,hc⟩:=hr.2 (by omega)
   obtain ⟨A',c',h1,h2⟩:=hc k hlt
   have Hsn:=Lib.hid (feedR_snoc 4294967295 rs k hlt)
   generalize rs.getD k []=row at h1 h2 Hsn
   generalize feedR 4294967295 (rs.take k)=y at hy Hsn
   clear hc
   have hlen:=h2.1
   go_wp2
   go_loop [3,17] (fun v i=>∃ j:Nat,j ≤ row.length∧i=.int .i64 j∧v=.int .u32 ((feedB y (row.take j):Nat):Int)) (fun _ i=>row.length - (intOf i).toNat)
   case atStart=>exact ⟨0,Nat.zero_le _,rfl,rfl⟩
   case round =>
    obtain ⟨j,hj,rfl,rfl⟩:=hrel
    have hz:=feedB_lt (row.take j) hy
    by_cases hlt2:j < row.length
    ·obtain ⟨b2,off2,rfl,hb2,hc2⟩:=h2.2 (by omega)
     have h3:=hc2 j hlt2
     have Hsn2:=Lib.hid (feedB_snoc y row j hlt2)
     generalize row.getD j 0=c at h3 Hsn2
     generalize feedB y (row.take j)=z at hz Hsn2
     have hcb:c.toNat < 256:=c.toNat_lt
     clear hc2
     have e0:=u32_xor_nat z c.toNat hz (by omega)
     have hs0:=xor_lt32 hz (show c.toNat < 4294967296 by omega)
     have Hst:=Lib.hid (stepB_bits z c)
     generalize z ^^^ c.toNat=s0 at e0 hs0 Hst
     go_wp2
     go_loop [3,8] (fun v i=>∃ t:Nat,t ≤ 8∧i=.int .i64 t∧v=.int .u32 ((bitN t s0:Nat):Int)) (fun _ i=>8 - (intOf i).toNat)
     case atStart=>exact ⟨0,by omega,rfl,rfl⟩
     case round =>
      obtain ⟨t,ht,rfl,rfl⟩:=hrel
      by_cases hlt3:t < 8
      ·have hu:=bitN_lt t hs0
       have Hb:Hid (bitN (t + 1) s0=bit1 (bitN t s0)):=rfl
       generalize bitN t s0=u at hu Hb
       have f1:=and1 u hu
       by_cases hp:u % 2=1
       ·have f2:=shr1_xor u hu
        have Hb2:Hid (bit1 u=u / 2 ^^^ 2197175160):=if_pos hp
        generalize u / 2 ^^^ 2197175160=v at f2 Hb2
        rw [hp] at f1
        clear hp
        go_wp2
        go_round
        case rel=>exact ⟨t + 1,by omega,by go_num,by rw [Hb.out,Hb2.out]⟩
        case measure=>simp [intOf];omega
       ·have Hb2:Hid (bit1 u=u / 2):=if_neg hp
        have hp0:u % 2=0:=by omega
        rw [hp0] at f1
        clear hp hp0
        go_wp2
        go_round
        case rel=>exact ⟨t + 1,by omega,by go_num,by rw [Hb.out,Hb2.out];rfl⟩
        case measure=>simp [intOf];omega
      ·obtain rfl:t=8:=by omega
       go_wp2
       go_round
       case rel=>exact ⟨j + 1,by omega,by go_num,by rw [Hsn2.out,Hst.out]⟩
       case measure=>simp [intOf];omega
    ·obtain rfl:j=row.length:=by omega
     go_wp2
     go_round
     case rel=>exact ⟨k + 1,by omega,by go_num,by rw [Hsn.out,List.take_length]⟩
     case measure=>simp [intOf];omega
  ·obtain rfl:k=rs.length:=by omega
   go_wp2
   go_ret
   exact ⟨by rw [Hs.out];exact congrArg (fun z=>Ending.returned (.int .u32 z)) (not_u32 _ hlast),rfl⟩
set_option maxHeartbeats 400000 in
theorem refSealed_any (A Ap:Option Addr) (c cp:Nat) (bs:List UInt8) (rs:List (List UInt8)) (n:Nat) (w:World) (hn:rs.length=n) (hn2:n ≤ 1000000) (hbs:bs.length=32) (hr:RdB w w.heap.size A bs) (hp:RdR w w.heap.size Ap rs) :
    Calls Tryz.prog 121 #[.slice A 32 c,.slice Ap n cp] w fun e w'=>∃ v,e=.returned v∧OwB 5 w' w.heap.size v (stamped bs rs)∧Below w.heap.size w w':=by
 obtain ⟨xs,hxv,hxr,hx1⟩:=hp.vals
 have Hf:=Lib.hid (stampK_four bs (sumR (bs.take 28::rs)) hbs)
 rw [show bs.take 28 ++ be4 (sumR (bs.take 28::rs))=stamped bs rs from rfl] at Hf
 have hx:=sumR_lt (bs.take 28::rs)
 have C:Hid (∀ (W:World) A' cap,RdR W W.heap.size A' (bs.take 28::rs)→Calls Tryz.prog 140 #[.slice A' (1 + n) cap] W fun e w'=>e=.returned (.int .u32 ((sumR (bs.take 28::rs):Nat):Int))∧w'=W) :=
  Lib.hid fun W A' cap h=>refSum_any A' (bs.take 28::rs) (1 + n) cap W (by simp;omega) h
 have Ht:Hid ((bs.take 28).length=28):=by show _=_;simp [hbs]
 generalize stamped bs rs=out at Hf
 generalize sumR (bs.take 28::rs)=x at C Hf hx
 have e0:(x:Int) / 16777216=((beB x 0).toNat:Int):=by simp only [beB,UInt8.toNat_ofNat'];omega
 have e1:(x:Int) / 65536 % 256=((beB x 1).toNat:Int):=by simp only [beB,UInt8.toNat_ofNat'];omega
 have e2:(x:Int) / 256 % 256=((beB x 2).toNat:Int):=by simp only [beB,UInt8.toNat_ofNat'];omega
 have e3:(x:Int) % 256=((beB x 3).toNat:Int):=by simp only [beB,UInt8.toNat_ofNat'];omega
 have Hst:Hid (stampK bs x 4=((((bs.set 28 (beB x 0)).set 29 (beB x 1)).set 30 (beB x 2)).set 31 (beB x 3))):=rfl
 generalize beB x 0=b0 at e0 Hst
 generalize beB x 1=b1 at e1 Hst
 generalize beB x 2=b2 at e2 Hst
 generalize beB x 3=b3 at e3 Hst
 go_enter Tryz.func121,Tryz.ntmps121
 go_wp2_with (first
  |(at_builtin
    refine wpList_append_B _ rfl _ _ _ rfl w.heap.size 5 Tryz.underlying35 info_u8 (.slice none 0 0) [] rfl (OwB.nil _ _ _) w.heap.size A 32 c bs rfl hbs.symm hr (by simp [hbs]) (Nat.le_refl _) ?_
    intro v' w1 hown hg hat
    rw [List.nil_append] at hown
    have hb1:Below w.heap.size w w1:=(Below.refl _ _).grown hg (Nat.le_refl _) (by simp [Value.ownBlock])
    obtain ⟨g,cap,rfl,hBg,hglt,hcap,hcm,hrd⟩:=hown.pos (by omega)
    have i0:(28:Int) ≤ (cap:Int):=by omega)
  |(at_builtin
    refine wpList_append_rows1 rfl _ _ _ rfl 35 Tryz.underlying32 info_row (some ⟨g,0,none⟩) 28 cap (bs.take 28) Ht.out rfl Ap n cp rs rfl hn hn2 (hrd.take 28) ((hp.below hb1 (Nat.le_refl _)).more hb1.size) ?_
    intro A2 cap2 w2 hrr hb2
    have hown2:=hown.below hb2
    obtain ⟨k28,f28⟩:=hown2.cell rfl 28 (by omega)
    obtain ⟨k29,f29⟩:=hown2.cell rfl 29 (by omega)
    obtain ⟨k30,f30⟩:=hown2.cell rfl 30 (by omega)
    obtain ⟨k31,f31⟩:=hown2.cell rfl 31 (by omega))
  |(go_at_call 140;refine (C.out _ _ _ hrr).mono ?_;rintro e w' ⟨rfl,rfl⟩))
 go_ret
 have s0:=(hown2.set rfl 28 b0).1
 have s1:=(s0.set (by simp) 29 b1).1
 have s2:=(s1.set (by simp) 30 b2).1
 have s3:=(s2.set (by simp) 31 b3).1
 rw [← Hst.out,Hf.out] at s3
 have hb3:=hb1.trans (hb2.mono hb1.size)
 rw [hbs] at s3
 exact ⟨_,rfl,s3,(((hb3.setCell (p:=⟨g,28,none⟩) hBg _).setCell (p:=⟨g,29,none⟩) hBg _).setCell (p:=⟨g,30,none⟩) hBg _).setCell (p:=⟨g,31,none⟩) hBg _⟩
theorem refSealed_n (A Ap:Option Addr) (m c cp:Nat) (bs:List UInt8) (rs:List (List UInt8)) (n:Nat) (w:World) (hm:m=32) (hn:rs.length=n) (hn2:n ≤ 1000000) (hbs:bs.length=32) (hr:RdB w w.heap.size A bs) (hp:RdR w w.heap.size Ap rs) :
    Calls Tryz.prog 121 #[.slice A m c,.slice Ap n cp] w fun e w'=>∃ v,e=.returned v∧OwB 5 w' w.heap.size v (stamped bs rs)∧Below w.heap.size w w':=by
 subst hm
 exact refSealed_any A Ap c cp bs rs n w hn hn2 hbs hr hp
end Go.Proofs.YtenkkdnepmoihaaGreatDoor
end
