/- Texts put together: RowFill, RowTake, RefFill. -/
import Derived.Test.YtldfoadildaljaaGreatWmap
import Derived.Test.YtldfoadildaljaaGreatWmaj
import Derived.Test.YtldfoadildaljaaGreatWmae
import Derived.Test.YtldfoadildaljaaGreatWman
import Derived.Test.YtldfoadildaljaaGreatWmab
section
set_option maxRecDepth 8000
set_option linter.unusedVariables false
set_option linter.unusedSimpArgs false
namespace Go.Proofs.YtldfoadildaljaaGreat
open Go.RowKit
theorem GAt.grown {w w':World} {b:Nat} {l d c:Int} {row:Option Nat} (h:GAt w b l d c) (hg:w.grownBy w' row) (hb:b < w.heap.size) (hne:row ≠ some b):GAt w' b l d c:=by
 have e:∀ o,w'.cell? ⟨b,o,none⟩=w.cell? ⟨b,o,none⟩:=fun o=>World.cell?_of_block (w:=w) (hg.block b hb (fun q=>hne q.symm))
 exact ⟨(e 0).trans h.1,(e 1).trans h.2.1,(e 2).trans h.2.2⟩
def wholeB (rs:List (List UInt8)):Bool:=rs.all fun x=>x.length == 32
theorem wholeB_iff {rs:List (List UInt8)}:wholeB rs=true ↔ ∀ k,k < rs.length→(rs.getD k []).length=32:=by
 unfold wholeB
 rw [List.all_eq_true]
 constructor
 ·intro h k hk
  have:=h (rs.getD k []) (by simp [hk])
  simpa using this
 ·intro h r hr
  obtain ⟨k,hk,rfl⟩:=List.getElem_of_mem hr
  have:=h k hk
  simpa [hk] using this
set_option maxHeartbeats 400000 in
theorem whole_any (A:Option Addr) (rs:List (List UInt8)) (n cp:Nat) (w:World) (hn:rs.length=n) (hr:RdR w w.heap.size A rs) :
    Calls Tryz.prog 84 #[.slice A n cp] w fun e w'=>e=.returned (.bool (wholeB rs))∧w'=w:=by
 subst hn
 have Hz:=Lib.hid (@wholeB_iff rs)
 have hm:=hr.1
 go_enter Tryz.func84,Tryz.ntmps84
 go_wp2
 go_loopw [7] (fun i wr=>∃ k:Nat,k ≤ rs.length∧i=.int .i64 k∧(∀ j,j < k→(rs.getD j []).length=32)∧wr=w) (fun i _=>rs.length - (intOf i).toNat)
 case atStart=>exact ⟨0,Nat.zero_le _,rfl,fun j hj=>absurd hj (Nat.not_lt_zero _),rfl⟩
 case round =>
  obtain ⟨k,hk,rfl,hj,rfl⟩:=hrel
  have Hj:=Lib.hid hj
  clear hj
  by_cases hlt:k < rs.length
  ·obtain ⟨b,off,rfl,hbb,hc⟩:=hr.2 (by omega)
   obtain ⟨A',c',h1,h2⟩:=hc k hlt
   have Hno:=Lib.hid (show ¬ (rs.getD k []).length=32→wholeB rs=false from fun h=>by
    cases e:wholeB rs with
    | false=>rfl
    | true=>exact absurd (Hz.out.1 e k hlt) h)
   have Hyes:=Lib.hid (show (rs.getD k []).length=32→∀ j,j < k + 1→(rs.getD j []).length=32 from fun h j hj=>by
    by_cases e:j=k
    ·rw [e];exact h
    ·exact Hj.out j (by omega))
   generalize (rs.getD k []).length=L at h1 Hno Hyes
   have i0:(0:Int) ≤ (k:Int):=by omega
   have i1:(k:Int) < (rs.length:Int):=by omega
   clear hc h2
   by_cases he:L=32
   ·have Hn:=Lib.hid (Hyes.out he)
    have e0:((L:Int) != 32)=false:=by rw [he];rfl
    clear he
    go_wp2
    go_roundw
    case rel=>exact ⟨k + 1,by omega,by go_num,Hn.out,trivial⟩
    case measure=>simp [intOf];omega
   ·have e0:((L:Int) != 32)=true:=by rw [bne_iff_ne];omega
    have Hn:=Lib.hid (Hno.out he)
    clear he
    go_wp2
    go_ret
    exact ⟨by rw [Hn.out];rfl,rfl⟩
  ·obtain rfl:k=rs.length:=by omega
   have Hn:=Lib.hid (Hz.out.2 Hj.out)
   go_wp2
   go_ret
   exact ⟨by rw [Hn.out];rfl,rfl⟩
def FillYes (w:World) (l:List (List UInt8)) (e:Ending) (w':World):Prop:=∃ g xs,e=.returned (.tuple #[.slice (some ⟨g,0,none⟩) l.length l.length,.bool true])∧Rq w.heap.size w' g l.length l.length xs l∧Below w.heap.size w w'
def FillR (w:World) (o:Option (List (List UInt8))) (e:Ending) (w':World):Prop :=
 match o with
 | none=>SolveNo w e w'
 | some l=>FillYes w l e w'
theorem fill_no1 (A:Option Addr) (n cp:Nat) (l d c r:Int) (w:World) (hT:plOk l d c r=false)
    (hl:-9223372036854775808 ≤ l∧l ≤ 9223372036854775807) (hd:-9223372036854775808 ≤ d∧d ≤ 9223372036854775807) (hc:-9223372036854775808 ≤ c∧c ≤ 9223372036854775807) (hr:-9223372036854775808 ≤ r∧r ≤ 9223372036854775807) :
    Calls Tryz.prog 64 #[.agg #[.int .i64 l,.int .i64 d,.int .i64 c],.int .i64 r,.slice A n cp] w (SolveNo w):=by
 have G:=gat_new w l d c 25 (0,0)
 have CP:=Lib.hid (fun W=>parity_any l d c r W hl hd hc hr)
 rw [plP_no hT,plQ_no hT] at CP
 clear hT
 go_enter Tryz.func64,Tryz.ntmps64
 go_wp2_with fail
 (with_reducible refine (CP.out _).mono ?_);rintro e w1 ⟨rfl,hb⟩
 have F:=(below1 w _).trans (hb.mono (by simp))
 clear hb
 go_wp2_with fail
 go_ret2
 exact ⟨rfl,F⟩
theorem fill_no2 (A:Option Addr) (n cp:Nat) (l d c r:Int) (w:World) (hT:plOk l d c r=true) (hne:n ≠ roW l d) (hn8:n ≤ 1000000)
    (hl:-9223372036854775808 ≤ l∧l ≤ 9223372036854775807) (hd:-9223372036854775808 ≤ d∧d ≤ 9223372036854775807) (hc:-9223372036854775808 ≤ c∧c ≤ 9223372036854775807) (hr:-9223372036854775808 ≤ r∧r ≤ 9223372036854775807) :
    Calls Tryz.prog 64 #[.agg #[.int .i64 l,.int .i64 d,.int .i64 c],.int .i64 r,.slice A n cp] w (SolveNo w):=by
 have G:=gat_new w l d c 25 (0,0)
 have CP:=Lib.hid (fun W=>parity_any l d c r W hl hd hc hr)
 have CW:=Lib.hid (fun W=>width_any l d c W hl hd hc)
 have R:=ro_of hT
 rw [R.pP] at CP
 rw [R.wd] at CW
 have e1:((n:Int) != ((roW l d:Nat):Int))=true:=by rw [bne_iff_ne];omega
 have n0:decide (((roS (roD d) (roF l d c r) (roW l d):Nat):Int) < 0)=false:=decide_eq_false (by omega)
 generalize ((roS (roD d) (roF l d c r) (roW l d):Nat):Int)=p at CP n0
 generalize plQ l d c r=q at CP
 generalize ((roW l d:Nat):Int)=wd at CW e1
 clear hT hne R
 go_enter Tryz.func64,Tryz.ntmps64
 go_wp2_with fail
 (with_reducible refine (CP.out _).mono ?_);rintro e w1 ⟨rfl,hb⟩
 have F:=(below1 w _).trans (hb.mono (by simp))
 obtain ⟨g1,g2,g3⟩:=G.below hb (by simp)
 clear hb
 go_wp2_with fail
 (with_reducible refine (CW.out _).mono ?_);rintro e w2 ⟨rfl,hb⟩
 have F2:=F.trans (hb.mono F.size)
 clear hb
 go_wp2_with fail
 go_ret2
 exact ⟨rfl,F2⟩
theorem fill_no3 (A:Option Addr) (rs:List (List UInt8)) (n cp:Nat) (l d c r:Int) (w:World) (hn:rs.length=n) (hrd:RdR w w.heap.size A rs) (hT:plOk l d c r=true) (hne:n=roW l d) (hw:wholeB rs=false)
    (hl:-9223372036854775808 ≤ l∧l ≤ 9223372036854775807) (hd:-9223372036854775808 ≤ d∧d ≤ 9223372036854775807) (hc:-9223372036854775808 ≤ c∧c ≤ 9223372036854775807) (hr:-9223372036854775808 ≤ r∧r ≤ 9223372036854775807) :
    Calls Tryz.prog 64 #[.agg #[.int .i64 l,.int .i64 d,.int .i64 c],.int .i64 r,.slice A n cp] w (SolveNo w):=by
 have G:=gat_new w l d c 25 (0,0)
 have CP:=Lib.hid (fun W=>parity_any l d c r W hl hd hc hr)
 have CW:=Lib.hid (fun W=>width_any l d c W hl hd hc)
 have R:=ro_of hT
 rw [R.pP] at CP
 rw [R.wd] at CW
 have e1:((n:Int) != ((roW l d:Nat):Int))=false:=by rw [hne];exact bne_self_eq_false _
 have n0:decide (((roS (roD d) (roF l d c r) (roW l d):Nat):Int) < 0)=false:=decide_eq_false (by omega)
 have CL:Hid (∀ W,Below w.heap.size w W→Calls Tryz.prog 84 #[.slice A n cp] W fun e w'=>e=.returned (.bool false)∧w'=W) :=
  Lib.hid fun W hb=>by have:=whole_any A rs n cp W hn ((hrd.below hb (Nat.le_refl _)).more hb.size);rwa [hw] at this
 generalize ((roS (roD d) (roF l d c r) (roW l d):Nat):Int)=p at CP n0
 generalize plQ l d c r=q at CP
 generalize ((roW l d:Nat):Int)=wd at CW e1
 clear hT hne R hn hrd hw
 go_enter Tryz.func64,Tryz.ntmps64
 go_wp2_with fail
 (with_reducible refine (CP.out _).mono ?_);rintro e w1 ⟨rfl,hb⟩
 have F:=(below1 w _).trans (hb.mono (by simp))
 obtain ⟨g1,g2,g3⟩:=G.below hb (by simp)
 clear hb
 go_wp2_with fail
 (with_reducible refine (CW.out _).mono ?_);rintro e w2 ⟨rfl,hb⟩
 have F2:=F.trans (hb.mono F.size)
 clear hb
 go_wp2_with fail
 (with_reducible refine (CL.out _ F2).mono ?_);rintro e w3 ⟨rfl,rfl⟩
 go_wp2_with fail
 go_ret2
 exact ⟨rfl,F2⟩
set_option maxHeartbeats 3200000 in
theorem fill_yes (A:Option Addr) (rs:List (List UInt8)) (n cp:Nat) (l d c r:Int) (w:World) (hn:rs.length=n) (hrd:RdR w w.heap.size A rs) (hT:fillOk l d c r rs=true)
    (hl:-9223372036854775808 ≤ l∧l ≤ 9223372036854775807) (hd:-9223372036854775808 ≤ d∧d ≤ 9223372036854775807) (hc:-9223372036854775808 ≤ c∧c ≤ 9223372036854775807) (hr:-9223372036854775808 ≤ r∧r ≤ 9223372036854775807) :
    Calls Tryz.prog 64 #[.agg #[.int .i64 l,.int .i64 d,.int .i64 c],.int .i64 r,.slice A n cp] w (FillYes w (fillL (roD d) (roF l d c r) rs)):=by
 have G:=gat_new w l d c 25 (0,0)
 have CP:=Lib.hid (fun W=>parity_any l d c r W hl hd hc hr)
 have CW:=Lib.hid (fun W=>width_any l d c W hl hd hc)
 obtain ⟨hk,hnw,hall⟩:=fillOk_yes hT
 have R:=ro_of hk
 have HA:=Lib.hid (fun k (hk:k < rs.length)=>mem_getD hall hk)
 have CD:Hid (∀ (k:Nat) W,k < roW l d→Calls Tryz.prog 85 #[.agg #[.int .i64 l,.int .i64 d,.int .i64 c],.int .i64 r,.int .i64 (k:Int)] W fun e w'=>e=.returned (.int .i64 ((roS (roD d) (roF l d c r) k:Nat):Int))∧Below W.heap.size W w') :=
  Lib.hid fun k W hk=>by
   have hw7:=R.w7
   have:=disk_any l d c r (k:Int) W hl hd hc hr (by omega)
   rwa [R.pD k hk] at this
 have CL:Hid (∀ W,Below w.heap.size w W→Calls Tryz.prog 84 #[.slice A n cp] W fun e w'=>e=.returned (.bool true)∧w'=W) :=
  Lib.hid fun W hb=>by
   have:=whole_any A rs n cp W hn ((hrd.below hb (Nat.le_refl _)).more hb.size)
   rwa [wholeB_iff.2 HA.out] at this
 have CSP:Hid (∀ W,Below w.heap.size w W→Calls Tryz.prog 86 #[.slice A n cp] W (Gives W (pB rs))):=Lib.hid fun W hb=>p_gives ((hrd.below hb (Nat.le_refl _)).more hb.size) hn rfl
 have CSQ:Hid (∀ W,Below w.heap.size w W→Calls Tryz.prog 87 #[.slice A n cp] W (Gives W (qB rs))):=Lib.hid fun W hb=>q_gives ((hrd.below hb (Nat.le_refl _)).more hb.size) hn rfl
 have hw1:=R.w1;have hw7:=R.w7;have hd8:=R.d8;have hWD:=R.hW;have hFD:=R.hF;have hlv:=R.lv
 rw [R.pP,R.pQ] at CP
 rw [R.wd] at CW
 have e1:((n:Int) != ((roW l d:Nat):Int))=false:=by rw [← hn,hnw];exact bne_self_eq_false _
 have HS:=Lib.hid (fun k (hk:k < roD d)=>@fillTo2_succ (roD d) (roF l d c r) rs k hFD hk)
 have HSd:=Lib.hid (fun k (hk:k < rs.length)=>@allL_data rs k hk)
 have HSp:=Lib.hid (allL_p rs)
 have HSq:=Lib.hid (allL_q rs)
 have Hlt:=Lib.hid (fun k (hk:k < roD d)=>@roS_lt (roD d) (roF l d c r) k hFD hk)
 have Hfl:=Lib.hid (show fillL (roD d) (roF l d c r) rs=fillTo2 (roD d) (roF l d c r) rs (roD d) from rfl)
 have Hf0:=Lib.hid (fillTo2_zero (roD d) (roF l d c r) rs)
 have Hfn:=Lib.hid (fillL_len (roD d) (roF l d c r) rs)
 have hdd:=R.dd
 obtain ⟨qv,hqv⟩:∃ qv,(if l=6 then ((roS (roD d) (roF l d c r) (roW l d + 1):Nat):Int) else -1)=qv:=⟨_,rfl⟩
 rw [hqv] at CP
 have Hq:=Lib.hid (show (qv=-1∧roD d=roW l d + 1)∨(qv=((roS (roD d) (roF l d c r) (roW l d + 1):Nat):Int)∧roD d=roW l d + 2) from by
  rcases hlv with ⟨rfl,h2⟩ | ⟨rfl,h2⟩
  ·exact .inl ⟨by rw [← hqv];rfl,h2⟩
  ·exact .inr ⟨by rw [← hqv];rfl,h2⟩)
 clear hqv hlv
 generalize fillL (roD d) (roF l d c r) rs=L at Hfl Hfn ⊢
 generalize roF l d c r=F0 at *
 generalize roW l d=W0 at *
 generalize roD d=D at *
 subst hdd
 have km:=make_rows D (by omega)
 have Hr:=Lib.hid hrd
 have hmx:=hrd.1
 clear hT hk R hall hrd hw7
 subst hn
 subst hnw
 have HP0:=Hlt.out rs.length hWD
 have n0:decide (((roS D F0 rs.length:Nat):Int) < 0)=false:=decide_eq_false (by omega)
 go_enter Tryz.func64,Tryz.ntmps64
 go_wp2_with fail
 (with_reducible refine (CP.out _).mono ?_);rintro e w1 ⟨rfl,hb⟩
 have F:=(below1 w _).trans (hb.mono (by simp))
 have G1:=G.below hb (by simp)
 have gs1:w.heap.size < w1.heap.size:=by have:=hb.size;simp at this;omega
 obtain ⟨g1,g2,g3⟩:=G1
 clear hb
 go_wp2_with fail
 (with_reducible refine (CW.out _).mono ?_);rintro e w2 ⟨rfl,hb⟩
 have F2:=F.trans (hb.mono F.size)
 have G2:=GAt.below ⟨g1,g2,g3⟩ hb gs1
 have gs2:w.heap.size < w2.heap.size:=by have:=hb.size;omega
 clear hb g1 g2 g3
 go_wp2_with fail
 (with_reducible refine (CL.out _ F2).mono ?_);rintro e w3 ⟨rfl,rfl⟩
 obtain ⟨g1,g2,g3⟩:=G2
 go_wp2_with fail
 have Q0:=(rq_new w3 D (by omega)).le (lo':=w.heap.size) (by omega)
 rw [← Hf0.out] at Q0
 have F3:=F2.trans ((below1 w3 (.cells (madeCells #[.slice none 0 0] D) 48)).mono F2.size)
 have G3:=GAt.below ⟨g1,g2,g3⟩ (below1 w3 (.cells (madeCells #[.slice none 0 0] D) 48)) gs2
 have hgg:w.heap.size < w3.heap.size:=gs2
 generalize w3.heap.size=g at Q0 hgg
 generalize w3.alloc (.cells (madeCells #[.slice none 0 0] D) 48)=w4 at Q0 F3 G3
 clear g1 g2 g3 F F2
 go_loopw [38] (fun i wr=>∃ (k:Nat) (xs:List Value),k ≤ rs.length∧i=.int .i64 k∧Rq w.heap.size wr g D D xs (fillTo2 D F0 rs k)∧GAt wr w.heap.size l D c∧Below w.heap.size w wr) (fun i _=>rs.length - (intOf i).toNat)
 case atStart=>exact ⟨0,_,Nat.zero_le _,rfl,Q0,G3,F3⟩
 case round =>
  obtain ⟨k,xs,hk,rfl,Q,G4,F4⟩:=hrel
  by_cases hlt:k < rs.length
  ·obtain ⟨b,off,rfl,hbb,hc⟩:=Hr.out.2 (by omega)
   obtain ⟨A',c',h1,h2⟩:=hc k hlt
   rw [← F4.cell (p:=⟨b,off + k,none⟩) hbb] at h1
   have h2':=(h2.below F4 (Nat.le_refl _)).more F4.size
   have h32:=HA.out k hlt
   have Hs:=Lib.hid (HS.out k (by omega))
   rw [HSd.out k hlt] at Hs
   have hj:=Hlt.out k (by omega)
   have CD1:=Lib.hid (fun W=>CD.out k W hlt)
   generalize rs.getD k []=row at h1 h2' h32 Hs
   generalize roS D F0 k=j at hj CD1 Hs
   generalize fillTo2 D F0 rs k=ms at Q Hs
   rw [h32] at h1
   have i0:(0:Int) ≤ (k:Int):=by omega
   have i1:(k:Int) < (rs.length:Int):=by omega
   have i2:(0:Int) ≤ (j:Int):=by omega
   have i3:(j:Int) < (D:Int):=by omega
   have hglt:=Q.glt.2
   clear hc h2 CP CW CL CSP CSQ CD HA HS HSd HSp HSq Hlt Hfl Hf0 Hfn Hq km e1 n0 HP0 Q0 F3 G3
   obtain ⟨g1,g2,g3⟩:=G4
   go_wp2_with fail
   (with_reducible refine (CD1.out _).mono ?_);rintro e w5 ⟨rfl,hb5⟩
   have hs5:=hb5.size
   go_wp2_with fail
   (with_reducible refine (clone_any A' row 32 c' w5 h32.symm (by omega) ((h2'.below hb5 (Nat.le_refl _)).more hs5)).mono ?_);rintro e w6 ⟨v,rfl,ho,hb6⟩
   have hb56:=hb5.trans (hb6.mono hs5)
   obtain ⟨A1,c1,rfl,_,_⟩:=ho.rd
   obtain ⟨Ao,co,_,h3,_⟩:=(Q.below hb56).at j hj
   have hf3:=(Q.below hb56).fz j
   obtain ⟨hset,hgr⟩:=Q.step hb56 j hj (ho.le hs5)
   rw [Hs.out] at hset
   have G6:=((GAt.below ⟨g1,g2,g3⟩ hb56 (by omega)).grown hgr (by have:=hb56.size;omega) (by intro e;injection e with e;omega))
   have F6:=(F4.trans (hb56.mono F4.size)).setCell (p:=⟨g,j,none⟩) (by show w.heap.size ≤ g;omega) (.slice A1 row.length c1)
   clear Q Hs h2' CD1
   rw [h32] at hset G6 F6
   go_wp2
   go_roundw
   case rel=>exact ⟨k + 1,_,by omega,by go_num,hset,G6,F6⟩
   case measure=>simp [intOf];omega
  ·obtain rfl:k=rs.length:=by omega
   have Hs:=Lib.hid (HS.out rs.length hWD)
   rw [HSp.out] at Hs
   have Hqs:=Lib.hid (fun h=>HS.out (rs.length + 1) h)
   rw [HSq.out] at Hqs
   have hq1:=Lib.hid (fun h=>Hlt.out (rs.length + 1) h)
   generalize roS D F0 rs.length=j at HP0 Hs n0 ⊢
   generalize fillTo2 D F0 rs rs.length=ms at Q Hs
   have i2:(0:Int) ≤ (j:Int):=by omega
   have i3:(j:Int) < (D:Int):=by omega
   have hglt:=Q.glt.2
   clear CP CW CL CD HA HS HSd HSp HSq Hlt Hf0 km e1 n0 Q0 F3 G3 G4 hWD hFD
   go_wp2_with fail
   (with_reducible refine (CSP.out _ F4).mono ?_);rintro e w5 ⟨A1,c1,rfl,ho,hb5⟩
   have hs5:=hb5.size
   obtain ⟨Ao,co,_,h3,_⟩:=(Q.below hb5).at j HP0
   have hf3:=(Q.below hb5).fz j
   obtain ⟨hset,hgr⟩:=Q.step hb5 j HP0 ho
   rw [Hs.out] at hset
   have F6:=(F4.trans (hb5.mono F4.size)).setCell (p:=⟨g,j,none⟩) (by show w.heap.size ≤ g;omega) (.slice A1 (pB rs).length c1)
   clear Q Hs CSP F4
   rcases Hq.out with ⟨rfl,hD⟩ | ⟨rfl,hD⟩
   ·clear Hq Hqs hq1
    subst hD
    go_wp2
    go_ret2
    rw [Hfl.out] at Hfn ⊢
    exact ⟨g,_,by rw [Hfn.out];rfl,by rw [Hfn.out];exact hset,F6⟩
   ·have Hs:=Lib.hid (Hqs.out (by omega))
    have hj2:=hq1.out (by omega)
    clear Hq Hqs hq1
    generalize roS D F0 (rs.length + 1)=j2 at Hs hj2 ⊢
    generalize fillTo2 D F0 rs (rs.length + 1)=ms at hset Hs
    have i4:(0:Int) ≤ (j2:Int):=by omega
    have i5:(j2:Int) < (D:Int):=by omega
    have n2:decide ((j2:Int) ≥ 0)=true:=decide_eq_true (by omega)
    have HD:=Lib.hid hD
    clear hD
    go_wp2_with fail
    generalize w5.setCell ⟨g,j,none⟩ (.slice A1 (pB rs).length c1)=w6 at hset F6 ⊢
    (with_reducible refine (CSQ.out _ F6).mono ?_);rintro e w7 ⟨A2,c2,rfl,ho7,hb7⟩
    obtain ⟨Ao2,co2,_,h4,_⟩:=(hset.below hb7).at j2 hj2
    have hf4:=(hset.below hb7).fz j2
    obtain ⟨hset2,hgr2⟩:=hset.step hb7 j2 hj2 ho7
    rw [Hs.out,show rs.length + 1 + 1=D from HD.out.symm] at hset2
    have F8:=(F6.trans (hb7.mono F6.size)).setCell (p:=⟨g,j2,none⟩) (by show w.heap.size ≤ g;omega) (.slice A2 (qB rs).length c2)
    clear hset Hs
    go_wp2
    go_ret2
    rw [Hfl.out] at Hfn ⊢
    exact ⟨g,_,by rw [Hfn.out];rfl,by rw [Hfn.out];exact hset2,F8⟩
theorem fill_any (A:Option Addr) (rs:List (List UInt8)) (n cp:Nat) (l d c r:Int) (w:World) (hn:rs.length=n) (hn8:n ≤ 1000000) (hrd:RdR w w.heap.size A rs)
    (hl:-9223372036854775808 ≤ l∧l ≤ 9223372036854775807) (hd:-9223372036854775808 ≤ d∧d ≤ 9223372036854775807) (hc:-9223372036854775808 ≤ c∧c ≤ 9223372036854775807) (hr:-9223372036854775808 ≤ r∧r ≤ 9223372036854775807) :
    Calls Tryz.prog 64 #[.agg #[.int .i64 l,.int .i64 d,.int .i64 c],.int .i64 r,.slice A n cp] w (FillR w (roFill l d c r rs)):=by
 by_cases h:fillOk l d c r rs=true
 ·rw [roFill_yes h]
  exact fill_yes A rs n cp l d c r w hn hrd h hl hd hc hr
 ·rw [roFill_no h]
  cases hT:plOk l d c r
  ·exact fill_no1 A n cp l d c r w hT hl hd hc hr
  ·by_cases h2:n=roW l d
   ·cases h3:wholeB rs
    ·exact fill_no3 A rs n cp l d c r w hn hrd hT h2 h3 hl hd hc hr
    ·refine absurd (fillOk_mk hT (hn.trans h2) fun x hx=>?_) h
     obtain ⟨k,hk,rfl⟩:=List.getElem_of_mem hx
     have:=wholeB_iff.1 h3 k hk
     simpa [hk] using this
   ·exact fill_no2 A n cp l d c r w hT h2 hn8 hl hd hc hr
end Go.Proofs.YtldfoadildaljaaGreat
end
section
set_option maxRecDepth 8000
set_option linter.unusedVariables false
set_option linter.unusedSimpArgs false
namespace Go.Proofs.YtldfoadildaljaaGreat
open Go.RowKit
def dataTo (l d c r:Int) (xs:List (List UInt8)) (k:Nat):List (List UInt8):=(List.range (roW l d)).map fun j=>if j < k then xs.getD (roS (roD d) (roF l d c r) j) [] else []
theorem dataTo_len (l d c r:Int) (xs:List (List UInt8)) (k:Nat):(dataTo l d c r xs k).length=roW l d:=by simp [dataTo]
theorem dataTo_get {l d c r:Int} {xs:List (List UInt8)} {k j:Nat} (hj:j < roW l d):(dataTo l d c r xs k).getD j []=if j < k then xs.getD (roS (roD d) (roF l d c r) j) [] else []:=by
 simp [dataTo,List.getD_eq_getElem?_getD,hj]
theorem dataTo_zero (l d c r:Int) (xs:List (List UInt8)):dataTo l d c r xs 0=List.replicate (roW l d) []:=by
 apply List.ext_getElem (by simp [dataTo])
 intro i h1 h2
 simp [dataTo]
theorem dataTo_all (l d c r:Int) (xs:List (List UInt8)):dataTo l d c r xs (roW l d)=dataL l d c r xs:=ext_getD (by rw [dataTo_len,dataL_len]) fun j hj=>by
 rw [dataTo_len] at hj
 rw [dataTo_get hj,dataL_get hj,if_pos hj]
theorem dataTo_succ {l d c r:Int} {xs:List (List UInt8)} {k:Nat} (hk:k < roW l d):(dataTo l d c r xs k).set k (xs.getD (roS (roD d) (roF l d c r) k) [])=dataTo l d c r xs (k + 1):=ext_getD (by rw [List.length_set,dataTo_len,dataTo_len]) fun j hj=>by
 rw [List.length_set,dataTo_len] at hj
 rw [dataTo_get hj]
 by_cases e:k=j
 ·subst e
  rw [getD_set_same (by rw [dataTo_len];exact hk),if_pos (by omega)]
 ·rw [getD_set_other e,dataTo_get hj]
  by_cases h:j < k
  ·rw [if_pos h,if_pos (by omega)]
  ·rw [if_neg h,if_neg (by omega)]
theorem RdB.rdbf0 {w:World} {A:Option Addr} {bs:List UInt8} (h:RdB w w.heap.size A bs):RdBF 0 w A bs :=
 ⟨h.1,fun h0=>by
  obtain ⟨b,off,e,hb,hc⟩:=h.2 h0
  exact ⟨b,off,e,hb,Nat.zero_le _,hc⟩⟩
theorem RdB.notin {w:World} {B g:Nat} {A:Option Addr} {bs:List UInt8} (h:RdB w B A bs) (hg:B ≤ g):0 < bs.length→∀ a,A=some a→a.block ≠ g:=fun hp a ha=>by
 obtain ⟨b,off,e,hb,_⟩:=h.2 hp
 rw [ha] at e
 injection e with e
 subst e
 show b ≠ g
 omega
theorem SolveR.later {w w1:World} {o:Option (List (List UInt8))} {e:Ending} {w':World} (h:SolveR w1 o e w') (hb:Below w.heap.size w w1):SolveR w o e w':=by
 cases o with
 | none=>exact ⟨h.1,hb.trans (h.2.mono hb.size)⟩
 | some l =>
   obtain ⟨g,c,he,ho,hb'⟩:=h
   exact ⟨g,c,he,ho.le hb.size,hb.trans (hb'.mono hb.size)⟩
theorem take_no1 (A:Option Addr) (n cp:Nat) (l d c r:Int) (w:World) (hT:plOk l d c r=false)
    (hl:-9223372036854775808 ≤ l∧l ≤ 9223372036854775807) (hd:-9223372036854775808 ≤ d∧d ≤ 9223372036854775807) (hc:-9223372036854775808 ≤ c∧c ≤ 9223372036854775807) (hr:-9223372036854775808 ≤ r∧r ≤ 9223372036854775807) :
    Calls Tryz.prog 100 #[.agg #[.int .i64 l,.int .i64 d,.int .i64 c],.int .i64 r,.slice A n cp] w (SolveNo w):=by
 have G:=gat_new w l d c 25 (0,0)
 have CP:=Lib.hid (fun W=>parity_any l d c r W hl hd hc hr)
 rw [plP_no hT,plQ_no hT] at CP
 clear hT
 go_enter Tryz.func100,Tryz.ntmps100
 go_wp2_with fail
 (with_reducible refine (CP.out _).mono ?_);rintro e w1 ⟨rfl,hb⟩
 have F:=(below1 w _).trans (hb.mono (by simp))
 clear hb
 go_wp2_with fail
 go_ret2
 exact ⟨rfl,F⟩
theorem take_no2 (A:Option Addr) (n cp:Nat) (l d c r:Int) (w:World) (hT:plOk l d c r=true) (hne:n ≠ roD d) (hn8:n ≤ 1000000)
    (hl:-9223372036854775808 ≤ l∧l ≤ 9223372036854775807) (hd:-9223372036854775808 ≤ d∧d ≤ 9223372036854775807) (hc:-9223372036854775808 ≤ c∧c ≤ 9223372036854775807) (hr:-9223372036854775808 ≤ r∧r ≤ 9223372036854775807) :
    Calls Tryz.prog 100 #[.agg #[.int .i64 l,.int .i64 d,.int .i64 c],.int .i64 r,.slice A n cp] w (SolveNo w):=by
 have G:=gat_new w l d c 25 (0,0)
 have CP:=Lib.hid (fun W=>parity_any l d c r W hl hd hc hr)
 have R:=ro_of hT
 rw [R.pP] at CP
 have hdd:=R.dd
 have e1:((n:Int) != d)=true:=by rw [bne_iff_ne];omega
 have n0:decide (((roS (roD d) (roF l d c r) (roW l d):Nat):Int) < 0)=false:=decide_eq_false (by omega)
 generalize ((roS (roD d) (roF l d c r) (roW l d):Nat):Int)=p at CP n0
 generalize plQ l d c r=q at CP
 clear hT hne R hdd
 go_enter Tryz.func100,Tryz.ntmps100
 go_wp2_with fail
 (with_reducible refine (CP.out _).mono ?_);rintro e w1 ⟨rfl,hb⟩
 have F:=(below1 w _).trans (hb.mono (by simp))
 obtain ⟨g1,g2,g3⟩:=G.below hb (by simp)
 clear hb
 go_wp2_with fail
 go_ret2
 exact ⟨rfl,F⟩
theorem solve32 {A A' A'':Option Addr} {p q:List UInt8} {rs:List (List UInt8)} {np cp nq cq n c:Nat} {w:World} (hnp:np=p.length) (hnq:nq=q.length) (hn:rs.length=n) (hn8:n ≤ 1000000)
    (hp:RdB w w.heap.size A p) (hq:RdB w w.heap.size A' q) (hr:RdR w w.heap.size A'' rs) :
    Calls Tryz.prog 109 #[.int .i64 32,.slice A np cp,.slice A' nq cq,.slice A'' n c] w (SolveR w (solveB 32 p q rs)):=solve_any A A' A'' p q rs np cp nq cq n c 32 w hnp hnq hn hn8 hp hq hr
set_option maxHeartbeats 3200000 in
theorem take_yes (A:Option Addr) (xs:List (List UInt8)) (n cp:Nat) (l d c r:Int) (w:World) (hn:xs.length=n) (hrd:RdR w w.heap.size A xs) (hk:plOk l d c r=true) (hnd:n=roD d)
    (hl:-9223372036854775808 ≤ l∧l ≤ 9223372036854775807) (hd:-9223372036854775808 ≤ d∧d ≤ 9223372036854775807) (hc:-9223372036854775808 ≤ c∧c ≤ 9223372036854775807) (hr:-9223372036854775808 ≤ r∧r ≤ 9223372036854775807) :
    Calls Tryz.prog 100 #[.agg #[.int .i64 l,.int .i64 d,.int .i64 c],.int .i64 r,.slice A n cp] w (SolveR w (roTake l d c r xs)):=by
 have G:=gat_new w l d c 25 (0,0)
 have CP:=Lib.hid (fun W=>parity_any l d c r W hl hd hc hr)
 have CW:=Lib.hid (fun W=>width_any l d c W hl hd hc)
 have R:=ro_of hk
 have CD:Hid (∀ (k:Nat) W,k < roW l d→Calls Tryz.prog 85 #[.agg #[.int .i64 l,.int .i64 d,.int .i64 c],.int .i64 r,.int .i64 (k:Int)] W fun e w'=>e=.returned (.int .i64 ((roS (roD d) (roF l d c r) k:Nat):Int))∧Below W.heap.size W w') :=
  Lib.hid fun k W hk=>by
   have hw7:=R.w7
   have:=disk_any l d c r (k:Int) W hl hd hc hr (by omega)
   rwa [R.pD k hk] at this
 have hw1:=R.w1;have hw7:=R.w7;have hd8:=R.d8;have hd3:=R.d3;have hWD:=R.hW;have hFD:=R.hF;have hlv:=R.lv
 rw [R.pP,R.pQ] at CP
 rw [R.wd] at CW
 rw [roTake_yes hk (hn.trans hnd)]
 have HS:=Lib.hid (fun k (hk:k < roW l d)=>@dataTo_succ l d c r xs k hk)
 have H0:=Lib.hid (dataTo_zero l d c r xs)
 have HA:=Lib.hid (dataTo_all l d c r xs)
 have HL:=Lib.hid (dataL_len l d c r xs)
 have Hlt:=Lib.hid (fun k (hk:k < roD d)=>@roS_lt (roD d) (roF l d c r) k hFD hk)
 have hdd:=R.dd
 have HPP:Hid (parL l d c r xs=xs.getD (roS (roD d) (roF l d c r) (roW l d)) []):=rfl
 obtain ⟨qv,hqv⟩:∃ qv,(if l=6 then ((roS (roD d) (roF l d c r) (roW l d + 1):Nat):Int) else -1)=qv:=⟨_,rfl⟩
 rw [hqv] at CP
 have Hq:=Lib.hid (show (qv=-1∧parQ l d c r xs=[])∨(qv=((roS (roD d) (roF l d c r) (roW l d + 1):Nat):Int)∧roD d=roW l d + 2∧parQ l d c r xs=xs.getD (roS (roD d) (roF l d c r) (roW l d + 1)) []) from by
  rcases hlv with ⟨rfl,h2⟩ | ⟨rfl,h2⟩
  ·exact .inl ⟨by rw [← hqv];rfl,rfl⟩
  ·exact .inr ⟨by rw [← hqv];rfl,h2,rfl⟩)
 clear hqv hlv
 generalize dataL l d c r xs=D1 at HA HL ⊢
 generalize parL l d c r xs=P1 at HPP ⊢
 generalize parQ l d c r xs=Q1 at Hq ⊢
 generalize dataTo l d c r xs=DT at HS H0 HA
 generalize roF l d c r=F0 at *
 generalize roW l d=W0 at *
 generalize roD d=D at *
 subst hdd
 have km:=make_rows W0 (by omega)
 have Hr:=Lib.hid hrd
 have hmx:=hrd.1
 subst hn
 clear hk R hrd
 have HP0:=Hlt.out W0 hWD
 have n0:decide (((roS D F0 W0:Nat):Int) < 0)=false:=decide_eq_false (by omega)
 have e1:((xs.length:Int) != (D:Int))=false:=by rw [hnd];exact bne_self_eq_false _
 have hxD:=Lib.hid hnd
 clear hnd
 go_enter Tryz.func100,Tryz.ntmps100
 go_wp2_with fail
 (with_reducible refine (CP.out _).mono ?_);rintro e w1 ⟨rfl,hb⟩
 have F:=(below1 w _).trans (hb.mono (by simp))
 have G1:=G.below hb (by simp)
 have gs1:w.heap.size < w1.heap.size:=by have:=hb.size;simp at this;omega
 obtain ⟨g1,g2,g3⟩:=G1
 clear hb
 go_wp2_with fail
 (with_reducible refine (CW.out _).mono ?_);rintro e w2 ⟨rfl,hb⟩
 have F2:=F.trans (hb.mono F.size)
 have G2:=GAt.below ⟨g1,g2,g3⟩ hb gs1
 have gs2:w.heap.size < w2.heap.size:=by have:=hb.size;omega
 clear hb g1 g2 g3
 obtain ⟨g1,g2,g3⟩:=G2
 go_wp2_with fail
 have Q0:=(rq_new w2 W0 (by omega)).owr.le (base':=0) (Nat.zero_le _)
 rw [← H0.out] at Q0
 have F3:=F2.trans ((below1 w2 (.cells (madeCells #[.slice none 0 0] W0) 48)).mono F2.size)
 have G3:=GAt.below ⟨g1,g2,g3⟩ (below1 w2 (.cells (madeCells #[.slice none 0 0] W0) 48)) gs2
 have hgg:w.heap.size < w2.heap.size:=gs2
 generalize w2.heap.size=g at Q0 hgg
 generalize w2.alloc (.cells (madeCells #[.slice none 0 0] W0) 48)=w4 at Q0 F3 G3
 clear g1 g2 g3 F F2
 go_loopw [32] (fun i wr=>∃ (k:Nat),k ≤ W0∧i=.int .i64 k∧OwR wr 0 g W0 W0 (DT k)∧GAt wr w.heap.size l D c∧Below w.heap.size w wr) (fun i _=>W0 - (intOf i).toNat)
 case atStart=>exact ⟨0,Nat.zero_le _,rfl,Q0,G3,F3⟩
 case round =>
  obtain ⟨k,hk,rfl,Q,G4,F4⟩:=hrel
  obtain ⟨b,off,rfl,hbb,hcc⟩:=Hr.out.2 (by have:=hxD.out;omega)
  by_cases hlt:k < W0
  ·have hj:=Hlt.out k (by omega)
   obtain ⟨A',c',h1,h2⟩:=hcc (roS D F0 k) (by have:=hxD.out;omega)
   rw [← F4.cell (p:=⟨b,off + roS D F0 k,none⟩) hbb] at h1
   have h2':=(h2.below F4 (Nat.le_refl _)).more F4.size
   have hnot:=h2.notin (Nat.le_of_lt hgg)
   have Hs:=Lib.hid (HS.out k hlt)
   have CD1:=Lib.hid (fun W=>CD.out k W hlt)
   generalize xs.getD (roS D F0 k) []=row at h1 h2' Hs hnot
   generalize roS D F0 k=j at hj CD1 h1
   generalize DT k=ms at Q Hs
   have i0:(0:Int) ≤ (k:Int):=by omega
   have i1:(k:Int) < (W0:Int):=by omega
   have i2:(0:Int) ≤ (j:Int):=by omega
   have i3:(j:Int) < (xs.length:Int):=by have:=hxD.out;omega
   have hglt:=Q.lt
   clear hcc h2 CP CW CD HS Hlt H0 HA HL Hq km e1 n0 HP0 Q0 F3 G3 HPP
   obtain ⟨g1,g2,g3⟩:=G4
   go_wp2_with fail
   (with_reducible refine (CD1.out _).mono ?_);rintro e w5 ⟨rfl,hb5⟩
   have hs5:=hb5.size
   have Q5:=Q.below hb5
   rw [← hb5.cell (p:=⟨b,off + j,none⟩) (by have:=F4.size;show b < _;omega)] at h1
   obtain ⟨Ao,co,h3,_,hf3⟩:=Q5.cell k hlt
   have hset:=Q5.set k (c:=c') ((h2'.below hb5 (Nat.le_refl _)).more hs5).rdbf0 hnot
   rw [Hs.out] at hset
   have hgr:w5.grownBy (w5.setCell ⟨g,k,none⟩ (.slice A' row.length c')) (some g):=by
    obtain ⟨_,_,_,vs,hrow,_⟩:=Q5
    exact (hrow.stored k _).2
   have G6:=((GAt.below ⟨g1,g2,g3⟩ hb5 (by omega)).grown hgr (by omega) (by intro e;injection e with e;omega))
   have F6:=(F4.trans (hb5.mono F4.size)).setCell (p:=⟨g,k,none⟩) (by show w.heap.size ≤ g;omega) (.slice A' row.length c')
   clear Q Hs h2' CD1 Q5
   go_wp2
   go_roundw
   case rel=>exact ⟨k + 1,by omega,by go_num,hset,G6,F6⟩
   case measure=>simp [intOf];omega
  ·obtain rfl:k=W0:=by omega
   rw [HA.out] at Q
   obtain ⟨Ap,c1,h1,h2⟩:=hcc (roS D F0 k) (by have:=hxD.out;omega)
   rw [← F4.cell (p:=⟨b,off + roS D F0 k,none⟩) hbb] at h1
   have hp1:=(h2.below F4 (Nat.le_refl _)).more F4.size
   rw [← HPP.out] at h1 hp1
   have hq1:=Lib.hid (fun h=>Hlt.out (k + 1) h)
   generalize roS D F0 k=j at HP0 h1 n0 ⊢
   have i2:(0:Int) ≤ (j:Int):=by omega
   have i3:(j:Int) < (xs.length:Int):=by have:=hxD.out;omega
   have hrr:=Q.rdr (by omega)
   clear CP CW CD HS Hlt H0 HA km e1 n0 Q0 F3 G3 G4 hWD hFD h2 HPP
   rcases Hq.out with ⟨rfl,rfl⟩ | ⟨rfl,hD,hQ1⟩
   ·have CS:=Lib.hid (solve32 (q:=[]) (nq:=0) (cp:=c1) (cq:=0) (c:=k) rfl rfl HL.out (by omega) hp1 (RdB.nil wr _ none) hrr)
    generalize hso:solveB 32 P1 [] D1=o at CS;have Hso:=Lib.hid hso;clear hso
    clear Hq hq1
    go_wp2_with fail
    (with_reducible refine CS.out.mono ?_);rintro e w5 hS
    have hS2:=SolveR.later hS F4
    rcases o with _ | L
    ·obtain ⟨rfl,hb⟩:=hS2
     go_wp2
     go_ret2
     rw [Hso.out]
     exact ⟨rfl,hb⟩
    ·obtain ⟨g5,c5,rfl,ho,hb⟩:=hS2
     go_wp2
     go_ret2
     rw [Hso.out]
     exact ⟨g5,c5,rfl,ho,hb⟩
   ·have hj2:=hq1.out (by omega)
    obtain ⟨Aq,c2,h3,h4⟩:=hcc (roS D F0 (k + 1)) (by have:=hxD.out;omega)
    rw [← F4.cell (p:=⟨b,off + roS D F0 (k + 1),none⟩) hbb] at h3
    have hp2:=(h4.below F4 (Nat.le_refl _)).more F4.size
    rw [← hQ1] at h3 hp2
    generalize roS D F0 (k + 1)=j2 at hj2 h3 ⊢
    have n2:decide ((j2:Int) < 0)=false:=decide_eq_false (by omega)
    have i4:(0:Int) ≤ (j2:Int):=by omega
    have i5:(j2:Int) < (xs.length:Int):=by have:=hxD.out;omega
    have CS:Hid (∀ W,Below wr.heap.size wr W→Calls Tryz.prog 109 #[.int .i64 32,.slice Ap P1.length c1,.slice Aq Q1.length c2,.slice (some ⟨g,0,none⟩) k k] W (SolveR W (solveB 32 P1 Q1 D1))) :=
     Lib.hid fun W hb=>solve32 rfl rfl HL.out (by omega) ((hp1.below hb (Nat.le_refl _)).more hb.size) ((hp2.below hb (Nat.le_refl _)).more hb.size) ((hrr.below hb (Nat.le_refl _)).more hb.size)
    generalize hso:solveB 32 P1 Q1 D1=o at CS;have Hso:=Lib.hid hso;clear hso
    have hbr:b < wr.heap.size:=by have:=F4.size;omega
    clear Hq hq1 hQ1 hD
    rcases o with _ | L
    ·go_wp2_with fail
     go_region_held3 (fun W=>W.cell? ⟨b,off + j,none⟩=some (.slice Ap P1.length c1)∧W.cell? ⟨b,off + j2,none⟩=some (.slice Aq Q1.length c2))
      (first | assumption | exact ⟨‹_›,‹_›⟩)
      ((go_at_call 109;(with_reducible refine (CS.out _ (Below.refl _ _).drew).mono ?_);rintro e w5 hS;have hS2:=SolveR.later hS (F4.trans ((Below.refl _ _).drew));obtain ⟨rfl,hb⟩:=hS2;have hb9:=hS.2;have k1:=(hb9.cell (p:=⟨b,off + j,none⟩) hbr).trans h1;have k2:=(hb9.cell (p:=⟨b,off + j2,none⟩) hbr).trans h3;dsimp only))
     go_wp2
     go_ret2
     rw [Hso.out]
     exact ⟨rfl,hb⟩
    ·go_wp2_with fail
     go_region_held3 (fun W=>W.cell? ⟨b,off + j,none⟩=some (.slice Ap P1.length c1)∧W.cell? ⟨b,off + j2,none⟩=some (.slice Aq Q1.length c2))
      (first | assumption | exact ⟨‹_›,‹_›⟩)
      ((go_at_call 109;(with_reducible refine (CS.out _ (Below.refl _ _).drew).mono ?_);rintro e w5 hS;have hS2:=SolveR.later hS (F4.trans ((Below.refl _ _).drew));obtain ⟨g5,c5,rfl,ho,hb⟩:=hS2;obtain ⟨_,_,_,_,hb9⟩:=hS;have k1:=(hb9.cell (p:=⟨b,off + j,none⟩) hbr).trans h1;have k2:=(hb9.cell (p:=⟨b,off + j2,none⟩) hbr).trans h3;dsimp only))
     go_wp2
     go_ret2
     rw [Hso.out]
     exact ⟨g5,c5,rfl,ho,hb⟩
theorem take_any (A:Option Addr) (xs:List (List UInt8)) (n cp:Nat) (l d c r:Int) (w:World) (hn:xs.length=n) (hn8:n ≤ 1000000) (hrd:RdR w w.heap.size A xs)
    (hl:-9223372036854775808 ≤ l∧l ≤ 9223372036854775807) (hd:-9223372036854775808 ≤ d∧d ≤ 9223372036854775807) (hc:-9223372036854775808 ≤ c∧c ≤ 9223372036854775807) (hr:-9223372036854775808 ≤ r∧r ≤ 9223372036854775807) :
    Calls Tryz.prog 100 #[.agg #[.int .i64 l,.int .i64 d,.int .i64 c],.int .i64 r,.slice A n cp] w (SolveR w (roTake l d c r xs)):=by
 cases hT:plOk l d c r
 ·have e:roTake l d c r xs=none:=by unfold roTake;rw [hT];rfl
  rw [e]
  exact take_no1 A n cp l d c r w hT hl hd hc hr
 ·by_cases h2:n=roD d
  ·exact take_yes A xs n cp l d c r w hn hrd hT h2 hl hd hc hr
  ·have e:roTake l d c r xs=none:=by unfold roTake;rw [hT,decide_eq_false (by rw [hn];exact h2)];rfl
   rw [e]
   exact take_no2 A n cp l d c r w hT h2 hn8 hl hd hc hr
end Go.Proofs.YtldfoadildaljaaGreat
end
section
set_option maxRecDepth 20000
set_option linter.unusedVariables false
set_option linter.unusedSimpArgs false
namespace Go.Proofs.YtldfoadildaljaaGreat
open Go.RowKit
set_option maxHeartbeats 3200000 in
theorem refFill_yes (A:Option Addr) (rs:List (List UInt8)) (n cp:Nat) (l d c r:Int) (w:World) (hn:rs.length=n) (hrd:RdR w w.heap.size A rs) (hT:fillOk l d c r rs=true)
    (hl:-9223372036854775808 ≤ l∧l ≤ 9223372036854775807) (hd:-9223372036854775808 ≤ d∧d ≤ 9223372036854775807) (hc:-9223372036854775808 ≤ c∧c ≤ 9223372036854775807) (hr:-9223372036854775808 ≤ r∧r ≤ 9223372036854775807) :
    Calls Tryz.prog 23 #[.agg #[.int .i64 l,.int .i64 d,.int .i64 c],.int .i64 r,.slice A n cp] w (FillYes w (fillL (roD d) (roF l d c r) rs)):=by
 have G:=gat_new w l d c 25 (0,0)
 obtain ⟨hk,hnw,hall⟩:=fillOk_yes hT
 have CF:=Lib.hid (fun W=>refFine_yes l d c r W (Lib.hid hk) hl hd hc hr)
 have CP:=Lib.hid (fun W=>refParity_any l d c r W hl hd hc hr)
 have CW:=Lib.hid (fun W=>refWidth_any l d c W hl hd hc)
 have R:=ro_of hk
 have HA:=Lib.hid (fun k (hk:k < rs.length)=>mem_getD hall hk)
 have CD:Hid (∀ (k:Nat) W,k < roW l d→Calls Tryz.prog 44 #[.agg #[.int .i64 l,.int .i64 d,.int .i64 c],.int .i64 r,.int .i64 (k:Int)] W fun e w'=>e=.returned (.int .i64 ((roS (roD d) (roF l d c r) k:Nat):Int))∧Below W.heap.size W w') :=
  Lib.hid fun k W hk=>by
   have hw7:=R.w7
   have:=refDisk_any l d c r (k:Int) W hl hd hc hr (by omega)
   rwa [R.pD k hk] at this
 have CSP:Hid (∀ W,Below w.heap.size w W→Calls Tryz.prog 49 #[.slice A n cp] W (Gives W (pB rs))):=Lib.hid fun W hb=>(refP_any A rs n cp W hn ((hrd.below hb (Nat.le_refl _)).more hb.size)).mono fun _ _ h=>gives_of rfl h
 have CSQ:Hid (∀ W,Below w.heap.size w W→Calls Tryz.prog 50 #[.slice A n cp] W (Gives W (qB rs))):=Lib.hid fun W hb=>(refQ_any A rs n cp W hn ((hrd.below hb (Nat.le_refl _)).more hb.size)).mono fun _ _ h=>gives_of rfl h
 have hw1:=R.w1;have hw7:=R.w7;have hd8:=R.d8;have hWD:=R.hW;have hFD:=R.hF;have hlv:=R.lv
 rw [R.pP,R.pQ] at CP
 rw [R.wd] at CW
 have e1:((n:Int) != ((roW l d:Nat):Int))=false:=by rw [← hn,hnw];exact bne_self_eq_false _
 have HS:=Lib.hid (fun k (hk:k < roD d)=>@fillTo2_succ (roD d) (roF l d c r) rs k hFD hk)
 have HSd:=Lib.hid (fun k (hk:k < rs.length)=>@allL_data rs k hk)
 have HSp:=Lib.hid (allL_p rs)
 have HSq:=Lib.hid (allL_q rs)
 have Hlt:=Lib.hid (fun k (hk:k < roD d)=>@roS_lt (roD d) (roF l d c r) k hFD hk)
 have Hfl:=Lib.hid (show fillL (roD d) (roF l d c r) rs=fillTo2 (roD d) (roF l d c r) rs (roD d) from rfl)
 have Hf0:=Lib.hid (fillTo2_zero (roD d) (roF l d c r) rs)
 have Hfn:=Lib.hid (fillL_len (roD d) (roF l d c r) rs)
 have hdd:=R.dd
 obtain ⟨qv,hqv⟩:∃ qv,(if l=6 then ((roS (roD d) (roF l d c r) (roW l d + 1):Nat):Int) else -1)=qv:=⟨_,rfl⟩
 rw [hqv] at CP
 have Hq:=Lib.hid (show (qv=-1∧roD d=roW l d + 1)∨(qv=((roS (roD d) (roF l d c r) (roW l d + 1):Nat):Int)∧roD d=roW l d + 2) from by
  rcases hlv with ⟨rfl,h2⟩ | ⟨rfl,h2⟩
  ·exact .inl ⟨by rw [← hqv];rfl,h2⟩
  ·exact .inr ⟨by rw [← hqv];rfl,h2⟩)
 clear hqv hlv
 generalize fillL (roD d) (roF l d c r) rs=L at Hfl Hfn ⊢
 generalize roF l d c r=F0 at *
 generalize roW l d=W0 at *
 generalize roD d=D at *
 subst hdd
 have km:=make_rows D (by omega)
 have Hr:=Lib.hid hrd
 have hmx:=hrd.1
 clear hT hk R hall hrd hw7
 subst hn
 subst hnw
 have HP0:=Hlt.out rs.length hWD
 go_enter Tryz.func23,Tryz.ntmps23
 go_wp2_with fail
 (with_reducible refine (CF.out _).mono ?_);rintro e w1 ⟨rfl,hb⟩
 have F:=(below1 w _).trans (hb.mono (by simp))
 have G1:=G.below hb (by simp)
 have gs1:w.heap.size < w1.heap.size:=by have:=hb.size;simp at this;omega
 obtain ⟨g1,g2,g3⟩:=G1
 clear hb
 go_wp2_with fail
 (with_reducible refine (CW.out _).mono ?_);rintro e w3 ⟨rfl,hb⟩
 have F2:=F.trans (hb.mono F.size)
 have G2:=GAt.below ⟨g1,g2,g3⟩ hb gs1
 have gs2:w.heap.size < w3.heap.size:=by have:=hb.size;omega
 clear hb g1 g2 g3
 obtain ⟨g1,g2,g3⟩:=G2
 go_wp2_with fail
 have Q0:=(rq_new w3 D (by omega)).le (lo':=w.heap.size) (by omega)
 rw [← Hf0.out] at Q0
 have F3:=F2.trans ((below1 w3 (.cells (madeCells #[.slice none 0 0] D) 48)).mono F2.size)
 have G3:=GAt.below ⟨g1,g2,g3⟩ (below1 w3 (.cells (madeCells #[.slice none 0 0] D) 48)) gs2
 have hgg:w.heap.size < w3.heap.size:=gs2
 generalize w3.heap.size=g at Q0 hgg
 generalize w3.alloc (.cells (madeCells #[.slice none 0 0] D) 48)=w4 at Q0 F3 G3
 clear g1 g2 g3 F F2
 go_loopw [29] (fun i wr=>∃ (k:Nat) (xs:List Value),k ≤ rs.length∧i=.int .i64 k∧Rq w.heap.size wr g D D xs (fillTo2 D F0 rs k)∧GAt wr w.heap.size l D c∧Below w.heap.size w wr) (fun i _=>rs.length - (intOf i).toNat)
 case atStart=>exact ⟨0,_,Nat.zero_le _,rfl,Q0,G3,F3⟩
 case round =>
  obtain ⟨k,xs,hk,rfl,Q,G4,F4⟩:=hrel
  by_cases hlt:k < rs.length
  ·obtain ⟨b,off,rfl,hbb,hc⟩:=Hr.out.2 (by omega)
   obtain ⟨A',c',h1,h2⟩:=hc k hlt
   rw [← F4.cell (p:=⟨b,off + k,none⟩) hbb] at h1
   have h2':=(h2.below F4 (Nat.le_refl _)).more F4.size
   have h32:=HA.out k hlt
   have Hs:=Lib.hid (HS.out k (by omega))
   rw [HSd.out k hlt] at Hs
   have hj:=Hlt.out k (by omega)
   have CD1:=Lib.hid (fun W=>CD.out k W hlt)
   generalize rs.getD k []=row at h1 h2' h32 Hs
   generalize roS D F0 k=j at hj CD1 Hs
   generalize fillTo2 D F0 rs k=ms at Q Hs
   rw [h32] at h1
   have i0:(0:Int) ≤ (k:Int):=by omega
   have i1:(k:Int) < (rs.length:Int):=by omega
   have i2:(0:Int) ≤ (j:Int):=by omega
   have i3:(j:Int) < (D:Int):=by omega
   have hglt:=Q.glt.2
   clear hc h2 CP CW CF CSP CSQ CD HA HS HSd HSp HSq Hlt Hfl Hf0 Hfn Hq km e1 HP0 Q0 F3 G3
   obtain ⟨g1,g2,g3⟩:=G4
   have H32:=Lib.hid h32
   clear h32
   go_wp2_with fail
   (with_reducible refine (CD1.out _).mono ?_);rintro e w5 ⟨rfl,hb5⟩
   have hs5:=hb5.size
   have Hb5:=Lib.hid hb5
   have hr5:=((h2'.below hb5 (Nat.le_refl _)).more hs5)
   clear hb5
   have Qn:∀ w6,Below w5.heap.size w5 w6→(∃ Ao m co,w6.cell? ⟨g,j,none⟩=some (.slice Ao m co))∧w6.frozen? ⟨g,j,none⟩=false:=fun w6 hb6=>by
    obtain ⟨Ao,co,_,h3,_⟩:=(Q.below (Hb5.out.trans (hb6.mono Hb5.out.size))).at j hj
    exact ⟨⟨Ao,_,co,h3⟩,(Q.below (Hb5.out.trans (hb6.mono Hb5.out.size))).fz j⟩
   go_wp2_with (
    at_builtin
    refine wpList_append_B _ rfl _ _ _ rfl w5.heap.size 5 Tryz.underlying48 info_u8 (.slice none 0 0) [] rfl (OwB.nil _ _ _) w5.heap.size A' 32 c' row rfl H32.out.symm hr5 (by rw [H32.out];simp) (Nat.le_refl _) ?_
    intro v' w6 hown hg hat
    have hb6:Below w5.heap.size w5 w6:=(Below.refl _ _).grown hg (Nat.le_refl _) (by simp [Value.ownBlock])
    rw [List.nil_append] at hown
    obtain ⟨⟨Ao,mo,co,h3⟩,hf3⟩:=Qn w6 hb6
    obtain ⟨A1,c1,rfl,_,_⟩:=hown.rd
    have Hown:=Lib.hid hown
    have Hb6:=Lib.hid hb6
    clear hown hg hat hb6 Qn)
   have hb56:=Hb5.out.trans (Hb6.out.mono Hb5.out.size)
   obtain ⟨hset,hgr⟩:=Q.step hb56 j hj (Hown.out.le hs5)
   rw [Hs.out] at hset
   have G6:=((GAt.below ⟨g1,g2,g3⟩ hb56 (by omega)).grown hgr (by have:=hb56.size;omega) (by intro e;injection e with e;omega))
   have F6:=(F4.trans (hb56.mono F4.size)).setCell (p:=⟨g,j,none⟩) (by show w.heap.size ≤ g;omega) (.slice A1 row.length c1)
   go_roundw
   case rel=>exact ⟨k + 1,_,by omega,by go_num,hset,G6,F6⟩
   case measure=>simp [intOf];omega
  ·obtain rfl:k=rs.length:=by omega
   have Hs:=Lib.hid (HS.out rs.length hWD)
   rw [HSp.out] at Hs
   have Hqs:=Lib.hid (fun h=>HS.out (rs.length + 1) h)
   rw [HSq.out] at Hqs
   have hq1:=Lib.hid (fun h=>Hlt.out (rs.length + 1) h)
   generalize roS D F0 rs.length=j at HP0 Hs CP
   generalize fillTo2 D F0 rs rs.length=ms at Q Hs
   have i2:(0:Int) ≤ (j:Int):=by omega
   have i3:(j:Int) < (D:Int):=by omega
   have hglt:=Q.glt.2
   clear CW CF CD HA HS HSd HSp HSq Hlt Hf0 km e1 Q0 F3 G3 hWD hFD
   obtain ⟨g1,g2,g3⟩:=G4
   go_wp2_with fail
   (with_reducible refine (CP.out _).mono ?_);rintro e w5' ⟨rfl,hb5'⟩
   have F4':=F4.trans (hb5'.mono F4.size)
   have Q':=Q.below hb5'
   have hglt':=Q'.glt.2
   clear hb5' Q F4 hglt CP g1 g2 g3
   go_wp2_with fail
   (with_reducible refine (CSP.out _ F4').mono ?_);rintro e w5 ⟨A1,c1,rfl,ho,hb5⟩
   have hs5:=hb5.size
   obtain ⟨Ao,co,_,h3,_⟩:=(Q'.below hb5).at j HP0
   have hf3:=(Q'.below hb5).fz j
   obtain ⟨hset,hgr⟩:=Q'.step hb5 j HP0 ho
   rw [Hs.out] at hset
   have F6:=(F4'.trans (hb5.mono F4'.size)).setCell (p:=⟨g,j,none⟩) (by show w.heap.size ≤ g;omega) (.slice A1 (pB rs).length c1)
   clear Q' Hs CSP F4'
   rcases Hq.out with ⟨rfl,hD⟩ | ⟨rfl,hD⟩
   ·clear Hq Hqs hq1
    subst hD
    go_wp2
    go_ret2
    rw [Hfl.out] at Hfn ⊢
    exact ⟨g,_,by rw [Hfn.out];rfl,by rw [Hfn.out];exact hset,F6⟩
   ·have Hs:=Lib.hid (Hqs.out (by omega))
    have hj2:=hq1.out (by omega)
    clear Hq Hqs hq1
    generalize roS D F0 (rs.length + 1)=j2 at Hs hj2 ⊢
    generalize fillTo2 D F0 rs (rs.length + 1)=ms at hset Hs
    have i4:(0:Int) ≤ (j2:Int):=by omega
    have i5:(j2:Int) < (D:Int):=by omega
    have n2:decide ((j2:Int) ≥ 0)=true:=decide_eq_true (by omega)
    have HD:=Lib.hid hD
    clear hD
    go_wp2_with fail
    generalize w5.setCell ⟨g,j,none⟩ (.slice A1 (pB rs).length c1)=w6 at hset F6 ⊢
    (with_reducible refine (CSQ.out _ F6).mono ?_);rintro e w7 ⟨A2,c2,rfl,ho7,hb7⟩
    obtain ⟨Ao2,co2,_,h4,_⟩:=(hset.below hb7).at j2 hj2
    have hf4:=(hset.below hb7).fz j2
    obtain ⟨hset2,hgr2⟩:=hset.step hb7 j2 hj2 ho7
    rw [Hs.out,show rs.length + 1 + 1=D from HD.out.symm] at hset2
    have F8:=(F6.trans (hb7.mono F6.size)).setCell (p:=⟨g,j2,none⟩) (by show w.heap.size ≤ g;omega) (.slice A2 (qB rs).length c2)
    clear hset Hs
    go_wp2
    go_ret2
    rw [Hfl.out] at Hfn ⊢
    exact ⟨g,_,by rw [Hfn.out];rfl,by rw [Hfn.out];exact hset2,F8⟩
end Go.Proofs.YtldfoadildaljaaGreat
end
