/- Texts put together: SlotMath, LogMath, UpdAlike. -/
import Derived.Test.YtenkkdnepmoihaaGreatDoorUcav
import Derived.Test.YtenkkdnepmoihaaGreatDoorUcae
import Derived.Test.YtenkkdnepmoihaaGreatDoorUcau
import Derived.Test.YtenkkdnepmoihaaGreatDoorUcal
section
set_option linter.unusedVariables false
set_option linter.unusedSimpArgs false
namespace Go.Proofs.YtenkkdnepmoihaaGreatDoor
end Go.Proofs.YtenkkdnepmoihaaGreatDoor
end
section
set_option linter.unusedVariables false
set_option linter.unusedSimpArgs false
namespace Go.Proofs.YtenkkdnepmoihaaGreatDoor
def itWr (N:Bch) (x:It):Int × Bch:=(N.writeE x.d x.a x.b.length,N.write x.d x.a x.b)
def itFl (N:Bch) (x:It):Int × Bch:=(N.flushE x.d,N.flush x.d)
def runTo (f:Bch→It→Int × Bch) (l:List It) (N:Bch):Nat→Int × Bch
 | 0=>(0,N)
 | i + 1=>if (runTo f l N i).1 ≠ 0 then runTo f l N i else
     if (f (runTo f l N i).2 (itN l i)).1=5 then (0,(f (runTo f l N i).2 (itN l i)).2) else f (runTo f l N i).2 (itN l i)
def wroteI (N:Bch) (l:List It):Int × Bch:=runTo itWr l N l.length
def settleS (N:Bch) (l:List It):Int × Bch:=if (wroteI N l).1 ≠ 0 then wroteI N l else runTo itFl l (wroteI N l).2 l.length
section
variable {f:Bch→It→Int × Bch} {l:List It} {N:Bch}
theorem runTo_pass {i:Nat} (h:(runTo f l N i).1=0) (hq:(f (runTo f l N i).2 (itN l i)).1=5):runTo f l N (i + 1)=(0,(f (runTo f l N i).2 (itN l i)).2):=by
 rw [runTo,if_neg (by simp [h]),if_pos hq]
theorem runTo_goes {i:Nat} (h:(runTo f l N i).1=0) (hq:(f (runTo f l N i).2 (itN l i)).1 ≠ 5):runTo f l N (i + 1)=f (runTo f l N i).2 (itN l i):=by
 rw [runTo,if_neg (by simp [h]),if_neg hq]
theorem runTo_stop {i:Nat} (h:(runTo f l N i).1 ≠ 0):∀ m,i ≤ m→runTo f l N m=runTo f l N i
 | 0,hm=>by obtain rfl:i=0:=by omega
            rfl
 | m + 1,hm=>by
   by_cases e:i=m + 1
   ·rw [e]
   ·have ih:=runTo_stop h m (by omega)
    rw [runTo,if_pos (by rw [ih];exact h),ih]
theorem runTo_any (P:Bch→Prop) (h0:P N) (hs:∀ M x,P M→P (f M x).2):∀ i,P (runTo f l N i).2
 | 0=>h0
 | i + 1=>by
   have ih:=runTo_any P h0 hs i
   rw [runTo]
   repeat' split
   ·exact ih
   ·exact hs _ _ ih
   ·exact hs _ _ ih
end
section
variable {l:List It} {N:Bch}
theorem ran_n (i:Nat):(runTo itWr l N i).2.n=N.n:=runTo_any (fun M=>M.n=N.n) rfl (fun M x h=>(Bch.write_n M _ _ _).trans h) i
theorem ranF_n (i:Nat):(runTo itFl l N i).2.n=N.n:=runTo_any (fun M=>M.n=N.n) rfl (fun M x h=>(flush_n M _).trans h) i
theorem settle_n:(settleS N l).2.n=N.n:=by
 unfold settleS wroteI;split
 ·exact ran_n _
 ·exact (ranF_n _).trans (ran_n _)
theorem ran_done:∀ i,(runTo itWr l N i).2.done ≤ N.done + i
 | 0=>Nat.le_refl _
 | i + 1=>by
   have ih:=ran_done i
   have h:=write_done (runTo itWr l N i).2 (itN l i).d (itN l i).a (itN l i).b
   rw [runTo]
   repeat' split
   ·omega
   ·exact Nat.le_trans h (by omega)
   ·exact Nat.le_trans h (by omega)
theorem ran_len (j:Nat):∀ i,((runTo itWr l N i).2.D j).ps.length ≤ (N.D j).ps.length + i
 | 0=>Nat.le_refl _
 | i + 1=>by
   have ih:=ran_len j i
   have h:=write_len (runTo itWr l N i).2 (itN l i).d (itN l i).a (itN l i).b j
   rw [runTo]
   repeat' split
   ·omega
   ·exact Nat.le_trans h (by omega)
   ·exact Nat.le_trans h (by omega)
end
def liveD (n:Nat) (lv:List Bool) (d:Int):Bool:=decide (d < (n:Int)) && lv.getD d.toNat false
def secIt (d:Nat) (rs:List (List UInt8)) (k:Nat):It:=⟨(d:Int),((2 + k:Nat):Int),rs.getD k []⟩
def secIts (d:Nat) (rs:List (List UInt8)) (i:Nat):List It:=(List.range i).map (secIt d rs)
theorem secIts_succ (d:Nat) (rs:List (List UInt8)) (i:Nat):secIts d rs (i + 1)=secIts d rs i ++ [secIt d rs i]:=by simp [secIts,List.range_succ]
theorem secIts_len (d:Nat) (rs:List (List UInt8)) (i:Nat):(secIts d rs i).length=i:=by simp [secIts]
def putTo (n:Nat) (lv:List Bool) (rs:List (List UInt8)):Nat→List It
 | 0=>[]
 | d + 1=>putTo n lv rs d ++ if liveD n lv (d:Int)=true then secIts d rs rs.length else []
theorem putTo_no {n:Nat} {lv:List Bool} {rs:List (List UInt8)} {d:Nat} (h:liveD n lv (d:Int)=false):putTo n lv rs (d + 1)=putTo n lv rs d:=by
 rw [putTo,if_neg (by simp [h]),List.append_nil]
theorem putTo_yes {n:Nat} {lv:List Bool} {rs:List (List UInt8)} {d:Nat} (h:liveD n lv (d:Int)=true):putTo n lv rs (d + 1)=putTo n lv rs d ++ secIts d rs rs.length:=by
 rw [putTo,if_pos h]
theorem putTo_len (n:Nat) (lv:List Bool) (rs:List (List UInt8)):∀ d,(putTo n lv rs d).length ≤ d * rs.length
 | 0=>by simp [putTo]
 | d + 1=>by
   have ih:=putTo_len n lv rs d
   have e:(d + 1) * rs.length=d * rs.length + rs.length:=Nat.succ_mul _ _
   rw [putTo,List.length_append,e]
   split
   ·rw [secIts_len];omega
   ·simp;omega
theorem mem_put {n:Nat} {lv:List Bool} {rs:List (List UInt8)} {x:It}:∀ {d:Nat},x ∈ putTo n lv rs d ↔ ∃ j k,j < d∧k < rs.length∧liveD n lv (j:Int)=true∧x=secIt j rs k
 | 0=>by simp [putTo]
 | d + 1=>by
   rw [putTo,List.mem_append,mem_put (d:=d)]
   constructor
   ·rintro (⟨j,k,hj,hk,hl,e⟩ | h)
    ·exact ⟨j,k,by omega,hk,hl,e⟩
    ·by_cases hl:liveD n lv (d:Int)=true
     ·rw [if_pos hl] at h
      obtain ⟨k,hk,e⟩:=List.mem_map.1 h
      exact ⟨d,k,by omega,List.mem_range.1 hk,hl,e.symm⟩
     ·rw [if_neg hl] at h;cases h
   ·rintro ⟨j,k,hj,hk,hl,e⟩
    by_cases h:j=d
    ·subst h;exact .inr (by rw [if_pos hl];exact List.mem_map.2 ⟨k,List.mem_range.2 hk,e.symm⟩)
    ·exact .inl ⟨j,k,by omega,hk,hl,e⟩
def putS (N:Bch) (lv:List Bool) (s:Int) (l:List It):Int × Bch:=if recOk s l=true then settleS N (putTo N.n lv (recB s l) N.n) else (1,N)
def liveI (n:Nat) (lv:List Bool) (x:It):Bool:=liveD n lv x.d
def appS (N:Bch) (lv:List Bool) (s:Int) (l:List It):Int × Bch:=if recOk s l=true then settleS N (l.filter (liveI N.n lv)) else (1,N)
theorem put_n (N:Bch) (lv:List Bool) (s:Int) (l:List It):(putS N lv s l).2.n=N.n:=by
 unfold putS;split
 ·exact settle_n
 ·rfl
theorem app_n (N:Bch) (lv:List Bool) (s:Int) (l:List It):(appS N lv s l).2.n=N.n:=by
 unfold appS;split
 ·exact settle_n
 ·rfl
def logR (D:Dsk):List (List UInt8):=(List.range 4).map fun k=>secAt D.now (2 + k)
def goneD (N:Bch) (d:Nat):Bool:=N.down || (N.D d).f
def onB (N:Bch) (d:Nat):Bool:=if goneD N d=true then false else rcO (logR (N.D d))
def onS (N:Bch) (d:Nat):Int:=if goneD N d=true then 0 else rcS (logR (N.D d))
def onL (N:Bch) (d:Nat):List It:=if goneD N d=true then [] else rcL (logR (N.D d))
def getTo (N:Bch) (lv:List Bool):Nat→Int × List It
 | 0=>(0,[])
 | d + 1=>if liveD N.n lv (d:Int)=true∧onB N d=true∧(getTo N lv d).1 < onS N d then (onS N d,onL N d) else getTo N lv d
def getS (N:Bch) (lv:List Bool):Int × List It:=getTo N lv N.n
theorem rcS_le (rs:List (List UInt8)):0 ≤ rcS rs∧rcS rs ≤ 2147483647:=by
 unfold rcS
 split
 ·rename_i h
  have:=((recOk_iff _ _).1 ((rcO_iff rs).1 h).2.1).1
  omega
 ·omega
theorem onS_le (N:Bch) (d:Nat):0 ≤ onS N d∧onS N d ≤ 2147483647:=by
 unfold onS;split
 ·omega
 ·exact rcS_le _
theorem getTo_le (N:Bch) (lv:List Bool):∀ d,0 ≤ (getTo N lv d).1∧(getTo N lv d).1 ≤ 2147483647
 | 0=>⟨Int.le_refl _,by show (0:Int) ≤ _;omega⟩
 | d + 1=>by
   rw [getTo];split
   ·exact onS_le N d
   ·exact getTo_le N lv d
end Go.Proofs.YtenkkdnepmoihaaGreatDoor
end
section
set_option maxRecDepth 20000
set_option linter.unusedVariables false
set_option linter.unusedSimpArgs false
namespace Go.Proofs.YtenkkdnepmoihaaGreatDoor
open Go.RowKit
theorem its_no {l m:List It} (j:Nat) (h:itN l j ≠ itN m j):decide (l=m)=false:=decide_eq_false fun e=>h (by rw [e])
set_option maxRecDepth 100000 in
set_option maxHeartbeats 6400000 in
theorem lgAlike_any (A A':Option Addr) (n n' c c':Nat) (l m:List It) (w:World) (hn:l.length=n) (hn':m.length=n') (h:RdI w w.heap.size A l) (h':RdI w w.heap.size A' m) :
    Calls Tryz.prog 58 #[.slice A n c,.slice A' n' c'] w fun e w'=>e=.returned (.bool (decide (l=m)))∧∃ k,w'=w.drewN k:=by
 subst hn hn'
 have H:=Lib.hid h
 have H':=Lib.hid h'
 have hmx:=h.1
 have hmx':=h'.1
 clear h h'
 by_cases h2:l.length=m.length
 ·have Hyes:=Lib.hid (show (∀ k,k < l.length→itN l k=itN m k)→decide (l=m)=true from fun q=>decide_eq_true (its_eq h2 q))
  have Hno:=Lib.hid (fun j q=>its_no (l:=l) (m:=m) j q)
  generalize decide (l=m)=res at Hyes Hno
  have e0:((l.length:Int) != (m.length:Int))=false:=by rw [h2];exact bne_self_eq_false _
  have Hl:=Lib.hid h2
  clear h2
  go_enter Tryz.func58,Tryz.ntmps58
  go_wp2
  go_loopw [13] (fun i wr=>∃ j:Nat,j ≤ l.length∧i=.int .i64 j∧(∀ k,k < j→itN l k=itN m k)∧∃ q,wr=w.drewN q) (fun i _=>l.length - (intOf i).toNat)
  case atStart=>exact ⟨0,Nat.zero_le _,rfl,fun k hk=>absurd hk (Nat.not_lt_zero _),0,rfl⟩
  case round =>
   obtain ⟨j,hj,rfl,hall,q,hq⟩:=hrel
   have Hall:=Lib.hid hall
   have Hq:=Lib.hid hq
   clear hall hq
   by_cases hlt:j < l.length
   ·have hlt':j < m.length:=by have:=Hl.out;omega
    obtain ⟨g,rfl,hg,hc⟩:=H.out.2 (by omega)
    obtain ⟨D,cd,hrp,hrd⟩:=hc j hlt
    obtain ⟨g',rfl,hg',hc'⟩:=H'.out.2 (by omega)
    obtain ⟨D',cd',hrp',hrd'⟩:=hc' j hlt'
    have CS:=Lib.hid (fun n=>Calls.quiet_of (same_any D D' _ _ cd cd' w.heap.size (itN l j).b (itN m j).b (wr.drewN n) rfl rfl (by rw [Hq.out];exact (hrd.below (belowN _ _ q) (Nat.le_refl _)).below (belowN _ _ n) (Nat.le_refl _)) (by rw [Hq.out];exact (hrd'.below (belowN _ _ q) (Nat.le_refl _)).below (belowN _ _ n) (Nat.le_refl _))))
    have Hne:=Lib.hid (fun (q:itN l j ≠ itN m j)=>Hno.out j q)
    have Hgo:=Lib.hid (fun (q:itN l j=itN m j)=>show ∀ k,k < j + 1→itN l k=itN m k from fun k hk=>by
     by_cases e:k=j
     ·subst e;exact q
     ·exact Hall.out k (by omega))
    generalize itN l j=y at hrp CS Hne Hgo
    generalize itN m j=z at hrp' CS Hne Hgo
    have y0:wr.cell? ⟨g,j * 3,none⟩=some (.int .i64 y.d):=by rw [Hq.out];exact hrp 0 _ rfl
    have y1:wr.cell? ⟨g,j * 3 + 1,none⟩=some (.int .i64 y.a):=by rw [Hq.out];exact hrp 1 _ rfl
    have y2:wr.cell? ⟨g,j * 3 + 2,none⟩=some (.slice D y.b.length cd):=by rw [Hq.out];exact hrp 2 _ rfl
    have z0:wr.cell? ⟨g',j * 3,none⟩=some (.int .i64 z.d):=by rw [Hq.out];exact hrp' 0 _ rfl
    have z1:wr.cell? ⟨g',j * 3 + 1,none⟩=some (.int .i64 z.a):=by rw [Hq.out];exact hrp' 1 _ rfl
    have z2:wr.cell? ⟨g',j * 3 + 2,none⟩=some (.slice D' z.b.length cd'):=by rw [Hq.out];exact hrp' 2 _ rfl
    have k0:(0:Int) ≤ (j:Int):=by omega
    have k1:(j:Int) < (l.length:Int):=by omega
    have k2:(j:Int) < (m.length:Int):=by omega
    have HX:=Lib.hid (show ((y.d != z.d)=false∧(y.a != z.a)=false∧decide (y.b=z.b)=true)→y=z from fun ⟨a,b,c⟩=>It.ext' (by simpa using a) (by simpa using b) (by simpa using c))
    have HX1:=Lib.hid (show (y.d != z.d)=true→y ≠ z from fun a e=>by rw [e] at a;simp at a)
    have HX2:=Lib.hid (show (y.a != z.a)=true→y ≠ z from fun a e=>by rw [e] at a;simp at a)
    have HX3:=Lib.hid (show decide (y.b=z.b)=false→y ≠ z from fun a e=>by rw [e] at a;simp at a)
    generalize decide (y.b=z.b)=x3 at CS HX HX3
    clear hrp hrp' hc hc' hrd hrd'
    cases x1:(y.d != z.d)
    ·cases x2:(y.a != z.a)
     ·cases x3
      ·have R:=Lib.hid (Hne.out (HX3.out rfl))
       go_wp2_with fail
       go_quiet ((go_at_call 19;exact CS.out _))
       go_wp2
       go_ret
       exact ⟨by rw [R.out];rfl,q + nq,by rw [Hq.out,World.drewN_drewN]⟩
      ·have R:=Lib.hid (Hgo.out (HX.out ⟨x1,x2,rfl⟩))
       go_wp2_with fail
       go_quiet ((go_at_call 19;exact CS.out _))
       go_wp2
       go_roundw
       case rel=>exact ⟨j + 1,by omega,by go_num,R.out,q + nq,by rw [Hq.out,World.drewN_drewN]⟩
       case measure=>simp [intOf];omega
     ·have R:=Lib.hid (Hne.out (HX2.out x2))
      clear CS
      go_wp2_with fail
      go_quiet (fail)
      go_wp2
      go_ret
      exact ⟨by rw [R.out];rfl,q + nq,by rw [Hq.out,World.drewN_drewN]⟩
    ·have R:=Lib.hid (Hne.out (HX1.out x1))
     clear CS
     go_wp2_with fail
     go_quiet (fail)
     go_wp2
     go_ret
     exact ⟨by rw [R.out];rfl,q + nq,by rw [Hq.out,World.drewN_drewN]⟩
   ·obtain rfl:j=l.length:=by omega
    have R:=Lib.hid (Hyes.out Hall.out)
    go_wp2
    go_ret
    exact ⟨by rw [R.out];rfl,q,Hq.out⟩
 ·have R:=Lib.hid (show decide (l=m)=false from decide_eq_false fun e=>h2 (by rw [e]))
  have e0:((l.length:Int) != (m.length:Int))=true:=by rw [bne_iff_ne];omega
  generalize decide (l=m)=res at R
  clear h2
  go_enter Tryz.func58,Tryz.ntmps58
  go_wp2
  go_ret
  exact ⟨by rw [R.out];rfl,0,rfl⟩
end Go.Proofs.YtenkkdnepmoihaaGreatDoor
end
