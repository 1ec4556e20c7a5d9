/- Texts put together: Bch, OnTo, BchOps. -/
import Derived.Test.YtldfoadildaljaaGreatWmap
import Derived.Test.YtldfoadildaljaaGreatWmar
import Derived.Test.YtldfoadildaljaaGreatWmak
section
namespace Go.Proofs.YtldfoadildaljaaGreat
open Go.RowKit
def upd {α:Type} (f:Nat→α) (i:Nat) (x:α):Nat→α:=fun j=>if j=i then x else f j
theorem upd_same {α:Type} (f:Nat→α) (i:Nat) (x:α):upd f i x i=x:=if_pos rfl
theorem upd_other {α:Type} (f:Nat→α) {i j:Nat} (x:α) (h:j ≠ i):upd f i x j=f j:=if_neg h
def offs (D:Nat→Dsk):Nat→Nat
 | 0=>0
 | i + 1=>offs D i + (D i).ps.length
structure Bch where
 n:Nat
 D:Nat→Dsk
 done:Nat
 left:Int
 down:Bool
namespace Bch
def new (n:Nat):Bch:=⟨n,fun _=>Dsk.new,0,-1,false⟩
def set (N:Bch) (i:Nat) (X:Dsk):Bch:={ N with D:=upd N.D i X }
def pickE (N:Bch) (d:Int):Int:=if d < 0∨(N.n:Int) ≤ d then 1 else 0
def powE (N:Bch) (d:Int):Int:=if N.pickE d ≠ 0 then N.pickE d else if N.down=true then 6 else 0
def countE (N:Bch):Int:=if N.left=0 then 6 else 0
def count (N:Bch):Bch:=if N.left=0 then { N with down:=true } else { N with done:=N.done + 1,left:=if N.left=-1 then -1 else N.left - 1 }
def at_ (N:Bch) (d:Int):Dsk:=N.D d.toNat
def restore (N:Bch):Bch:={ N with left:=-1,down:=false }
def pend (N:Bch):Nat:=offs N.D N.n
def readE (N:Bch) (d k:Int):Int:=if N.powE d ≠ 0 then N.powE d else reachE (N.at_ d).f k
def read (N:Bch) (d k:Int):List UInt8:=if N.readE d k ≠ 0 then [] else secAt (N.at_ d).now k.toNat
def writeE (N:Bch) (d k:Int) (n:Nat):Int:=if N.powE d ≠ 0 then N.powE d else if takeE (N.at_ d).f k n ≠ 0 then takeE (N.at_ d).f k n else N.countE
def write (N:Bch) (d k:Int) (x:List UInt8):Bch :=
 if N.powE d ≠ 0 then N else if takeE (N.at_ d).f k x.length ≠ 0 then N else if N.left=0 then N.count else (N.set d.toNat ((N.at_ d).write k.toNat x)).count
def flushE (N:Bch) (d:Int):Int:=if N.powE d ≠ 0 then N.powE d else if (N.at_ d).f=true then 5 else 0
def flush (N:Bch) (d:Int):Bch:=if N.powE d ≠ 0 then N else N.set d.toNat (N.at_ d).flushE
def fail (N:Bch) (d:Int):Bch:=if N.pickE d ≠ 0 then N else N.set d.toNat Dsk.failed
def failed (N:Bch) (d:Int):Bool:=if N.pickE d ≠ 0 then false else (N.at_ d).f
def damageE (N:Bch) (d k:Int) (n:Nat):Int:=if N.pickE d ≠ 0 then N.pickE d else takeE (N.at_ d).f k n
def damage (N:Bch) (d k:Int) (x:List UInt8):Bch:=if N.pickE d ≠ 0 then N else N.set d.toNat ((N.at_ d).damageE k x)
structure Ok (N:Bch):Prop where
 n:1 ≤ N.n∧N.n ≤ 8
 left:-1 ≤ N.left∧N.left ≤ 9223372036854775807
theorem pickE_zero {N:Bch} {d:Int} (h:N.pickE d=0):0 ≤ d∧d < (N.n:Int):=by
 unfold pickE at h
 by_cases c:d < 0∨(N.n:Int) ≤ d
 ·simp [c] at h
 ·omega
theorem pickE_ok {N:Bch} {d:Int} (h0:0 ≤ d) (h1:d < (N.n:Int)):N.pickE d=0:=by unfold pickE;rw [if_neg (by omega)]
theorem powE_zero {N:Bch} {d:Int} (h:N.powE d=0):N.pickE d=0∧N.down=false:=by
 unfold powE at h
 by_cases c:N.pickE d=0
 ·refine ⟨c,?_⟩
  rw [if_neg (by simp [c])] at h
  cases hd:N.down with
  | false=>rfl
  | true=>simp [hd] at h
 ·rw [if_pos c] at h;exact absurd h c
theorem powE_ok {N:Bch} {d:Int} (h:N.pickE d=0) (hd:N.down=false):N.powE d=0:=by unfold powE;rw [if_neg (by simp [h]),hd];rfl
theorem powE_down {N:Bch} {d:Int} (h:N.pickE d=0) (hd:N.down=true):N.powE d=6:=by unfold powE;rw [if_neg (by simp [h]),hd];rfl
theorem powE_no {N:Bch} {d:Int} (h:N.pickE d ≠ 0):N.powE d=N.pickE d:=by unfold powE;rw [if_pos h]
theorem count_n (N:Bch):N.count.n=N.n:=by unfold count;split <;> rfl
theorem count_D (N:Bch):N.count.D=N.D:=by unfold count;split <;> rfl
theorem write_n (N:Bch) (d k:Int) (x:List UInt8):(N.write d k x).n=N.n:=by
 unfold write
 repeat' split
 ·rfl
 ·rfl
 ·exact count_n N
 ·exact count_n _
end Bch
theorem offs_pend (D:Nat→Dsk):∀ n,(∀ i,i < n→(D i).ps.length ≤ 2000000)→offs D n ≤ n * 2000000
 | 0,_=>Nat.zero_le _
 | n + 1,h=>by
   have h1:=offs_pend D n fun i hi=>h i (by omega)
   have h2:=h n (by omega)
   show offs D n + (D n).ps.length ≤ _
   omega
theorem offs_congr {D E:Nat→Dsk}:∀ {n:Nat},(∀ i,i < n→(D i).ps.length=(E i).ps.length)→offs D n=offs E n
 | 0,_=>rfl
 | n + 1,h=>by
   show offs D n + _=offs E n + _
   rw [offs_congr fun i hi=>h i (by omega),h n (by omega)]
theorem offs_zero {D:Nat→Dsk}:∀ {n:Nat},(∀ i,i < n→(D i).ps=[])→offs D n=0
 | 0,_=>rfl
 | n + 1,h=>by
   show offs D n + _=0
   rw [offs_zero fun i hi=>h i (by omega),h n (by omega)];rfl
structure BH where
 g:Nat
 bk:Nat→Nat
 pv:Nat→Value
def ptr (b:Nat):Value:=.pointer (some ⟨b,0,none⟩)
def bcells (g n:Nat) (done:Nat) (left:Int) (down:Bool):List Value:=[.int .i64 (done:Int),.int .i64 left,.bool down,.slice (some ⟨g,0,none⟩) n n]
def prow (n:Nat) (bk:Nat→Nat):List Value:=(List.range n).map fun i=>ptr (bk i)
theorem prow_get {n i:Nat} (bk:Nat→Nat) (h:i < n):(prow n bk)[i]?=some (ptr (bk i)):=by unfold prow;simp [h]
structure BAt (w:World) (B b:Nat) (H:BH) (N:Bch):Prop where
 blk:w.heap[b]?=some (.cells (bcells H.g N.n N.done N.left N.down).toArray 43 (0,0))
 row:w.heap[H.g]?=some (.cells (prow N.n H.bk).toArray 76 (0,0))
 dsk:∀ i,i < N.n→DskAt w B (H.bk i) (H.pv i) (N.D i)
 le:B ≤ b∧B ≤ H.g
 ne:b ≠ H.g
 off:∀ i,i < N.n→∀ k,DF (H.bk i) (H.pv i) k→k ≠ b∧k ≠ H.g
 ap:∀ i j,i < N.n→j < N.n→i ≠ j→Apart (H.bk i) (H.pv i) (H.bk j) (H.pv j)
 ok:N.Ok
def BF (b:Nat) (H:BH) (n:Nat) (k:Nat):Prop:=k=b∨k=H.g∨∃ i,i < n∧DF (H.bk i) (H.pv i) k
def BTo (w w':World) (B b:Nat) (H:BH) (n:Nat) (N':Bch):Prop :=
 ∃ H',BAt w' B b H' N'∧Chg (BF b H n) w w'∧(N'.n=n∧H'.g=H.g)∧∀ k,BF b H' n k→BF b H n k∨w.heap.size ≤ k
theorem DskAt.flt {w:World} {B b:Nat} {pv:Value} {D:Dsk} (h:DskAt w B b pv D) {k:Nat} (hk:DF b pv k):B ≤ k∧k < w.heap.size:=by
 rcases hk with e | e
 ·exact ⟨by rw [e];exact h.le,by rw [e];exact h.lt⟩
 ·exact h.plt k e
section
variable {w w':World} {B b:Nat} {H:BH} {N:Bch}
theorem BAt.lt (h:BAt w B b H N):b < w.heap.size:=(Array.getElem?_eq_some_iff.1 h.blk).1
theorem BAt.glt (h:BAt w B b H N):H.g < w.heap.size:=(Array.getElem?_eq_some_iff.1 h.row).1
theorem BAt.flt (h:BAt w B b H N) {k:Nat} (hk:BF b H N.n k):B ≤ k∧k < w.heap.size:=by
 rcases hk with e | e | ⟨i,hi,e⟩
 ·exact ⟨by rw [e];exact h.le.1,by rw [e];exact h.lt⟩
 ·exact ⟨by rw [e];exact h.le.2,by rw [e];exact h.glt⟩
 ·exact (h.dsk i hi).flt e
theorem BAt.heap (h:BAt w B b H N) (hk:∀ k,BF b H N.n k→w'.heap[k]?=w.heap[k]?):BAt w' B b H N :=
 ⟨(hk b (.inl rfl)).trans h.blk,(hk H.g (.inr (.inl rfl))).trans h.row,fun i hi=>(h.dsk i hi).heap (hk _ (.inr (.inr ⟨i,hi,.inl rfl⟩))) fun k e=>hk k (.inr (.inr ⟨i,hi,.inr e⟩)),h.le,h.ne,h.off,h.ap,h.ok⟩
theorem BAt.chg {F:Nat→Prop} (h:BAt w B b H N) (hc:Chg F w w') (hn:∀ k,BF b H N.n k→¬ F k):BAt w' B b H N:=h.heap fun k hk=>hc.block k (h.flt hk).2 (hn k hk)
theorem BAt.below (h:BAt w B b H N) (hb:Below w.heap.size w w'):BAt w' B b H N:=h.heap fun k hk=>hb.block k (h.flt hk).2
theorem BAt.mono {B':Nat} (h:BAt w B b H N) (hB:B' ≤ B):BAt w B' b H N :=
 ⟨h.blk,h.row,fun i hi=>(h.dsk i hi).mono hB,by have:=h.le;omega,h.ne,h.off,h.ap,h.ok⟩
theorem BAt.self (h:BAt w B b H N):BTo w w B b H N.n N:=⟨H,h,Chg.refl _ _,⟨rfl,rfl⟩,fun _ h=>.inl h⟩
theorem BAt.grow (h:BAt w B b H N) (hb:Below w.heap.size w w'):BTo w w' B b H N.n N:=⟨H,h.below hb,chg_below _ hb,⟨rfl,rfl⟩,fun _ h=>.inl h⟩
theorem BAt.step (h:BAt w B b H N) {i:Nat} (hi:i < N.n) {pv':Value} {X:Dsk} (hd:DskAt w' B (H.bk i) pv' X) (hc:Chg (DF (H.bk i) (H.pv i)) w w') (hn:NewOr w (H.pv i) pv'):BTo w w' B b H N.n (N.set i X):=by
 have hnew:∀ k,DF (H.bk i) pv' k→DF (H.bk i) (H.pv i) k∨w.heap.size ≤ k:=fun k e=>by
  rcases e with e | e
  ·exact .inl (.inl e)
  ·rcases hn k e with e | e
   ·exact .inl (.inr e)
   ·exact .inr e
 have hpv:∀ j,j ≠ i→upd H.pv i pv' j=H.pv j:=fun j hj=>upd_other _ _ hj
 refine ⟨{ H with pv:=upd H.pv i pv' },⟨?_,?_,?_,h.le,h.ne,?_,?_,⟨h.ok.n,h.ok.left⟩⟩,hc.mono fun k _ e=>.inr (.inr ⟨i,hi,e⟩),⟨rfl,rfl⟩,?_⟩
 ·exact (hc.block b h.lt fun e=>(h.off i hi b e).1 rfl).trans h.blk
 ·exact (hc.block H.g h.glt fun e=>(h.off i hi H.g e).2 rfl).trans h.row
 ·intro j hj
  show DskAt w' B (H.bk j) (upd H.pv i pv' j) (upd N.D i X j)
  by_cases e:j=i
  ·subst e;rw [upd_same,upd_same];exact hd
  ·rw [upd_other _ _ e,upd_other _ _ e]
   exact (h.dsk j hj).apart (h.ap j i hj hi e) hc
 ·intro j hj k
  show DF (H.bk j) (upd H.pv i pv' j) k→_
  by_cases e:j=i
  ·subst e
   rw [upd_same]
   intro hk
   rcases hnew k hk with h1 | h1
   ·exact h.off j hj k h1
   ·have:=h.lt;have:=h.glt;exact ⟨by omega,by show k ≠ H.g;omega⟩
  ·rw [upd_other _ _ e];exact h.off j hj k
 ·intro j l hj hl hjl
  show Apart (H.bk j) (upd H.pv i pv' j) (H.bk l) (upd H.pv i pv' l)
  by_cases e:j=i
  ·subst e
   rw [upd_same,upd_other _ _ (fun e=>hjl e.symm)]
   intro k h1 h2
   rcases hnew k h1 with h3 | h3
   ·exact h.ap j l hj hl hjl k h3 h2
   ·have:=((h.dsk l hl).flt h2).2;omega
  ·rw [upd_other _ _ e]
   by_cases e2:l=i
   ·subst e2
    rw [upd_same]
    intro k h1 h2
    rcases hnew k h2 with h3 | h3
    ·exact h.ap j l hj hl hjl k h1 h3
    ·have:=((h.dsk j hj).flt h1).2;omega
   ·rw [upd_other _ _ e2];exact h.ap j l hj hl hjl
 ·intro k hk
  rcases hk with e | e | ⟨j,hj,e⟩
  ·exact .inl (.inl e)
  ·exact .inl (.inr (.inl e))
  ·revert e
   show DF (H.bk j) (upd H.pv i pv' j) k→_
   by_cases e2:j=i
   ·subst e2
    rw [upd_same]
    intro e
    rcases hnew k e with h1 | h1
    ·exact .inl (.inr (.inr ⟨j,hj,h1⟩))
    ·exact .inr h1
   ·rw [upd_other _ _ e2]
    intro e
    exact .inl (.inr (.inr ⟨j,hj,e⟩))
theorem BAt.cnt (h:BAt w B b H N) {done:Nat} {left:Int} {down:Bool} (hb:w'.heap[b]?=some (.cells (bcells H.g N.n done left down).toArray 43 (0,0))) (hc:Chg (fun k=>k=b) w w') (hl:-1 ≤ left∧left ≤ 9223372036854775807) :
    BTo w w' B b H N.n { N with done:=done,left:=left,down:=down } :=
 ⟨H,⟨hb,(hc.block H.g h.glt fun e=>h.ne e.symm).trans h.row,fun i hi=>(h.dsk i hi).chg hc (fun e=>(h.off i hi _ (.inl rfl)).1 e) fun k hk e=>(h.off i hi k (.inr hk)).1 e,h.le,h.ne,h.off,h.ap,⟨h.ok.n,hl⟩⟩,
  hc.mono fun _ _ e=>.inl e,⟨rfl,rfl⟩,fun _ h=>.inl h⟩
theorem BTo.seq {w1 w2:World} {n:Nat} {H1:BH} {N2:Bch} (c1:Chg (BF b H n) w w1) (g1:H1.g=H.g) (n1:∀ k,BF b H1 n k→BF b H n k∨w.heap.size ≤ k) (h2:BTo w1 w2 B b H1 n N2):BTo w w2 B b H n N2:=by
 obtain ⟨H2,a2,c2,e2,n2⟩:=h2
 refine ⟨H2,a2,c1.trans c2 fun k hk e=>?_,⟨e2.1,e2.2.trans g1⟩,fun k hk=>?_⟩
 ·rcases n1 k e with h | h
  ·exact h
  ·omega
 ·rcases n2 k hk with h | h
  ·exact n1 k h
  ·exact .inr (Nat.le_trans c1.size h)
theorem BAt.cell (h:BAt w B b H N) (j:Nat) (v:Value) (hj:(bcells H.g N.n N.done N.left N.down)[j]?=some v):w.cell? ⟨b,j,none⟩=some v:=by
 rw [cell_of_row w b j _ _ _ h.blk,List.getElem?_toArray];exact hj
theorem BAt.pcell (h:BAt w B b H N) {i:Nat} (hi:i < N.n):w.cell? ⟨H.g,i,none⟩=some (ptr (H.bk i)):=by
 rw [cell_of_row w H.g i _ _ _ h.row,List.getElem?_toArray];exact prow_get _ hi
end
theorem size_int1:(Tryz.prog.info? 3).map (·.size)=some 1:=by kernel_rfl
theorem size_bool1:(Tryz.prog.info? 4).map (·.size)=some 1:=by kernel_rfl
theorem size_pdisk:(Tryz.prog.info? 76).map (·.size)=some 1:=by kernel_rfl
end Go.Proofs.YtldfoadildaljaaGreat
end
section
set_option linter.unusedVariables false
set_option linter.unusedSimpArgs false
namespace Go.Proofs.YtldfoadildaljaaGreat
def onTo (f:Bch→Nat→Int × Bch) (lv:List Bool) (N:Bch):Nat→Int × Bch
 | 0=>(0,N)
 | i + 1=>if (onTo f lv N i).1 ≠ 0 then onTo f lv N i else if lv.getD i false=false then onTo f lv N i else
     if (f (onTo f lv N i).2 i).1=5 then (0,(f (onTo f lv N i).2 i).2) else f (onTo f lv N i).2 i
def wrF (at':Nat) (x:List UInt8) (N:Bch) (i:Nat):Int × Bch:=(N.writeE (i:Int) (at':Int) x.length,N.write (i:Int) (at':Int) x)
def flF (N:Bch) (i:Nat):Int × Bch:=(N.flushE (i:Int),N.flush (i:Int))
section
variable {f:Bch→Nat→Int × Bch} {lv:List Bool} {N:Bch}
theorem onTo_skip {i:Nat} (h:(onTo f lv N i).1=0) (hl:lv.getD i false=false):onTo f lv N (i + 1)=onTo f lv N i:=by
 rw [onTo,if_neg (by simp [h]),if_pos hl]
theorem onTo_pass {i:Nat} (h:(onTo f lv N i).1=0) (hl:lv.getD i false=true) (hq:(f (onTo f lv N i).2 i).1=5):onTo f lv N (i + 1)=(0,(f (onTo f lv N i).2 i).2):=by
 rw [onTo,if_neg (by simp [h]),if_neg (by simp only [hl];decide),if_pos hq]
theorem onTo_goes {i:Nat} (h:(onTo f lv N i).1=0) (hl:lv.getD i false=true) (hq:(f (onTo f lv N i).2 i).1 ≠ 5):onTo f lv N (i + 1)=f (onTo f lv N i).2 i:=by
 rw [onTo,if_neg (by simp [h]),if_neg (by simp only [hl];decide),if_neg hq]
theorem onTo_stop {i:Nat} (h:(onTo f lv N i).1 ≠ 0):∀ m,i ≤ m→onTo f lv N m=onTo f lv N i
 | 0,hm=>by obtain rfl:i=0:=by omega
            rfl
 | m + 1,hm=>by
   by_cases e:i=m + 1
   ·rw [e]
   ·have ih:=onTo_stop h m (by omega)
    rw [onTo,if_pos (by rw [ih];exact h),ih]
theorem onTo_any (P:Bch→Prop) (h0:P N) (hs:∀ M i,P M→P (f M i).2):∀ i,P (onTo f lv N i).2
 | 0=>h0
 | i + 1=>by
   have ih:=onTo_any P h0 hs i
   rw [onTo]
   repeat' split
   ·exact ih
   ·exact ih
   ·exact hs _ _ ih
   ·exact hs _ _ ih
end
theorem flush_n (N:Bch) (d:Int):(N.flush d).n=N.n:=by unfold Bch.flush;split <;> rfl
theorem flushed_n {lv:List Bool} {N:Bch} (i:Nat):(onTo flF lv N i).2.n=N.n :=
 onTo_any (fun M=>M.n=N.n) rfl (fun M i h=>(flush_n M _).trans h) i
theorem count_done (N:Bch):N.count.done ≤ N.done + 1:=by unfold Bch.count;split <;> simp
theorem write_done (N:Bch) (d k:Int) (x:List UInt8):(N.write d k x).done ≤ N.done + 1:=by
 unfold Bch.write
 repeat' split
 ·omega
 ·omega
 ·exact count_done N
 ·exact count_done (N.set d.toNat ((N.at_ d).write k.toNat x))
theorem write_len (N:Bch) (d k:Int) (x:List UInt8) (j:Nat):((N.write d k x).D j).ps.length ≤ (N.D j).ps.length + 1:=by
 unfold Bch.write
 repeat' split
 ·omega
 ·omega
 ·rw [Bch.count_D];omega
 ·rw [Bch.count_D]
  show ((upd N.D d.toNat _) j).ps.length ≤ _
  by_cases e:j=d.toNat
  ·subst e;rw [upd_same];simp [Bch.at_,Dsk.write]
  ·rw [upd_other _ _ e];omega
end Go.Proofs.YtldfoadildaljaaGreat
end
section
namespace Go.Proofs.YtldfoadildaljaaGreat
open Go.RowKit
def i64B (x:Int):Prop:=-9223372036854775808 ≤ x∧x ≤ 9223372036854775807
section
variable (B b:Nat) (H:BH) (N:Bch) (w:World) (h:BAt w B b H N)
include h
theorem bch_spent_any:Calls Tryz.prog 90 #[ptr b] w fun e w'=>e=.returned (.bool (N.left == 0))∧w'=w:=by
 have hc:=h.cell 1 _ rfl
 clear h
 unfold ptr
 go_enter Tryz.func90,Tryz.ntmps90
 go_wp2
 go_ret
 exact ⟨rfl,rfl⟩
theorem bch_len_any:Calls Tryz.prog 96 #[ptr b] w fun e w'=>e=.returned (.int .i64 (N.n:Int))∧w'=w:=by
 have hc:=h.cell 3 _ rfl
 clear h
 unfold ptr
 go_enter Tryz.func96,Tryz.ntmps96
 go_wp2
 go_ret
 exact ⟨rfl,rfl⟩
theorem bch_restore_any:Calls Tryz.prog 41 #[ptr b] w fun e w'=>e=.returned (.tuple #[])∧BTo w w' B b H N.n N.restore:=by
 have Hh:=Lib.hid h
 have Hb:=Lib.hid h.blk
 clear h
 unfold ptr
 go_enter Tryz.func41,Tryz.ntmps41
 go_wp2_with (first
  |(refine wpList_store_blk rfl 3 _ _ (by rfl) b 1 (.int .i64 (-1)) (by rfl) (by rfl) (bcells H.g N.n N.done N.left N.down) 43 Hb.out [.int .i64 (-1)] (by rfl) 1 rfl size_int1 (by show 1 + 1 ≤ 4;omega) (by intro u hu;simp at hu;subst hu;rfl) (bcells H.g N.n N.done (-1) N.down) rfl ?_
    intro w1 hb1 hg1
    have Hb1:=Lib.hid hb1
    have Hg1:=Lib.hid hg1
    clear hb1 hg1)
  |(refine wpList_store_blk rfl 4 _ _ (by rfl) b 2 (.bool false) (by rfl) (by rfl) (bcells H.g N.n N.done (-1) N.down) 43 Hb1.out [.bool false] (by rfl) 1 rfl size_bool1 (by show 2 + 1 ≤ 4;omega) (by intro u hu;simp at hu;subst hu;rfl) (bcells H.g N.n N.done (-1) false) rfl ?_
    intro w2 hb2 hg2))
 go_end0
 exact ⟨rfl,Hh.out.cnt hb2 (((chg_grown Hg1.out).trans (chg_grown hg2) fun _ _ e=>e).mono fun i _ e=>by injection e with e;exact e.symm) (by omega)⟩
theorem bch_count_any (hdn:N.done ≤ 2000000):Calls Tryz.prog 93 #[ptr b] w fun e w'=>e=.returned (.int .i64 N.countE)∧BTo w w' B b H N.n N.count:=by
 have Hh:=Lib.hid h
 have Hb:=Lib.hid h.blk
 have CS:=Lib.hid (bch_spent_any B b H N w h)
 have hc:=h.cell 1 _ rfl
 have hc0:=h.cell 0 _ rfl
 obtain ⟨hl1,hl2⟩:=h.ok.left
 clear h
 by_cases h0:N.left=0
 ·have HE:=Lib.hid (show N.countE=6 by unfold Bch.countE;rw [if_pos h0])
  have HC:=Lib.hid (show N.count={ N with down:=true } by unfold Bch.count;rw [if_pos h0])
  rw [h0] at CS
  unfold ptr at CS ⊢
  go_enter Tryz.func93,Tryz.ntmps93
  go_wp2_with fail
  refine CS.out.mono ?_
  rintro e w' ⟨rfl,rfl⟩
  go_wp2_with (refine wpList_store_blk rfl 4 _ _ (by rfl) b 2 (.bool true) (by rfl) (by rfl) (bcells H.g N.n N.done N.left N.down) 43 Hb.out [.bool true] (by rfl) 1 rfl size_bool1 (by show 2 + 1 ≤ 4;omega) (by intro u hu;simp at hu;subst hu;rfl) (bcells H.g N.n N.done N.left true) rfl ?_;intro w1 hb1 hg1)
  go_ret
  exact ⟨by rw [HE.out];rfl,by rw [HC.out];exact Hh.out.cnt hb1 ((chg_grown hg1).mono fun i _ e=>by injection e with e;exact e.symm) (by omega)⟩
 ·have HE:=Lib.hid (show N.countE=0 by unfold Bch.countE;rw [if_neg h0])
  have hs:(N.left == 0)=false:=by rw [beq_eq_false_iff_ne];exact h0
  rw [hs] at CS
  by_cases h1:N.left=-1
  ·have HC:=Lib.hid (show N.count={ N with done:=N.done + 1,left:=-1 } by unfold Bch.count;rw [if_neg h0,if_pos h1])
   rw [h1] at hc Hb
   have n1:IntKind.i64.wrap ((N.done:Int) + 1)=(N.done:Int) + 1:=by rw [IntKind.wrap_i64];omega
   have N2:=Lib.hid (show (N.done:Int) + 1=((N.done + 1:Nat):Int) by omega)
   clear hs h0 h1
   unfold ptr at CS ⊢
   go_enter Tryz.func93,Tryz.ntmps93
   go_wp2_with fail
   refine CS.out.mono ?_
   rintro e w' ⟨rfl,rfl⟩
   go_wp2_with (refine wpList_store_blk rfl 3 _ _ (by rfl) b 0 (.int .i64 ((N.done:Int) + 1)) (by rfl) (by rfl) (bcells H.g N.n N.done (-1) N.down) 43 Hb.out [.int .i64 ((N.done:Int) + 1)] (by rfl) 1 rfl size_int1 (by show 0 + 1 ≤ 4;omega) (by intro u hu;simp at hu;subst hu;rfl) (bcells H.g N.n (N.done + 1) (-1) N.down) (by rw [N2.out];rfl) ?_;intro w1 hb1 hg1)
   go_ret
   exact ⟨by rw [HE.out];rfl,by rw [HC.out];exact Hh.out.cnt hb1 ((chg_grown hg1).mono fun i _ e=>by injection e with e;exact e.symm) (by omega)⟩
  ·have HC:=Lib.hid (show N.count={ N with done:=N.done + 1,left:=N.left - 1 } by unfold Bch.count;rw [if_neg h0,if_neg h1])
   have n1:IntKind.i64.wrap ((N.done:Int) + 1)=(N.done:Int) + 1:=by rw [IntKind.wrap_i64];omega
   have n3:IntKind.i64.wrap (N.left - 1)=N.left - 1:=by rw [IntKind.wrap_i64];omega
   have N2:=Lib.hid (show (N.done:Int) + 1=((N.done + 1:Nat):Int) by omega)
   have hne:(N.left != -1)=true:=by rw [bne_iff_ne];exact h1
   have hlp:1 ≤ N.left:=by omega
   clear hs h0 h1
   unfold ptr at CS ⊢
   go_enter Tryz.func93,Tryz.ntmps93
   go_wp2_with fail
   refine CS.out.mono ?_
   rintro e w' ⟨rfl,rfl⟩
   go_wp2_with (first
   |(refine wpList_store_blk rfl 3 _ _ (by rfl) b 1 (.int .i64 (N.left - 1)) (by rfl) (by rfl) (bcells H.g N.n N.done N.left N.down) 43 Hb.out [.int .i64 (N.left - 1)] (by rfl) 1 rfl size_int1 (by show 1 + 1 ≤ 4;omega) (by intro u hu;simp at hu;subst hu;rfl) (bcells H.g N.n N.done (N.left - 1) N.down) rfl ?_
     intro w1 hb1 hg1
     have Hb1:=Lib.hid hb1
     have Hg1:=Lib.hid hg1
     have hc1:w1.cell? ⟨b,0,none⟩=some (.int .i64 (N.done:Int)):=by rw [cell_of_row w1 b 0 _ _ _ hb1];rfl
     clear hb1 hg1 hc hc0)
   |(refine wpList_store_blk rfl 3 _ _ (by rfl) b 0 (.int .i64 ((N.done:Int) + 1)) (by rfl) (by rfl) (bcells H.g N.n N.done (N.left - 1) N.down) 43 Hb1.out [.int .i64 ((N.done:Int) + 1)] (by rfl) 1 rfl size_int1 (by show 0 + 1 ≤ 4;omega) (by intro u hu;simp at hu;subst hu;rfl) (bcells H.g N.n (N.done + 1) (N.left - 1) N.down) (by rw [N2.out];rfl) ?_
     intro w2 hb2 hg2))
   go_ret
   exact ⟨by rw [HE.out];rfl,by rw [HC.out];exact Hh.out.cnt hb2 (((chg_grown Hg1.out).trans (chg_grown hg2) fun _ _ e=>e).mono fun i _ e=>by injection e with e;exact e.symm) (by omega)⟩
def dptr (H:BH) (e:Int) (d:Int):Value:=if e ≠ 0 then .pointer none else ptr (H.bk d.toNat)
theorem bch_pick_any (d:Int) (hd:i64B d):Calls Tryz.prog 46 #[ptr b,.int .i64 d] w fun e w'=>e=.returned (.tuple #[dptr H (N.pickE d) d,.int .i64 (N.pickE d)])∧w'=w:=by
 have hc:=h.cell 3 _ rfl
 have hn:=h.ok.n
 obtain ⟨hd1,hd2⟩:=hd
 by_cases h0:d < 0
 ·have HE:=Lib.hid (show N.pickE d=1 by unfold Bch.pickE;rw [if_pos (.inl h0)])
  have HP:=Lib.hid (show dptr H 1 d=.pointer none by unfold dptr;rfl)
  clear h
  unfold ptr
  go_enter Tryz.func46,Tryz.ntmps46
  go_wp2
  go_ret2
  exact ⟨by rw [HE.out,HP.out];rfl,rfl⟩
 ·by_cases h1:(N.n:Int) ≤ d
  ·have HE:=Lib.hid (show N.pickE d=1 by unfold Bch.pickE;rw [if_pos (.inr h1)])
   have HP:=Lib.hid (show dptr H 1 d=.pointer none by unfold dptr;rfl)
   clear h
   unfold ptr
   go_enter Tryz.func46,Tryz.ntmps46
   go_wp2
   go_ret2
   exact ⟨by rw [HE.out,HP.out];rfl,rfl⟩
  ·have HE:=Lib.hid (show N.pickE d=0 by unfold Bch.pickE;rw [if_neg (by omega)])
   obtain ⟨j,rfl⟩:∃ j:Nat,d=(j:Int):=⟨d.toNat,by omega⟩
   have HP:=Lib.hid (show dptr H 0 (j:Int)=ptr (H.bk j) by unfold dptr;rfl)
   have hp:=h.pcell (i:=j) (by omega)
   have j0:(0:Int) ≤ (j:Int):=by omega
   have j1:(j:Int) < (N.n:Int):=by omega
   clear h h0 h1
   unfold ptr at HP hp ⊢
   go_enter Tryz.func46,Tryz.ntmps46
   go_wp2
   go_ret2
   exact ⟨by rw [HE.out,HP.out];rfl,rfl⟩
theorem bch_powered_any (d:Int) (hd:i64B d):Calls Tryz.prog 51 #[ptr b,.int .i64 d] w fun e w'=>e=.returned (.tuple #[dptr H (N.powE d) d,.int .i64 (N.powE d)])∧w'=w:=by
 have hc:=h.cell 2 _ rfl
 have CP:=Lib.hid (bch_pick_any B b H N w h d hd)
 by_cases h0:N.pickE d=0
 ·rw [h0] at CP
  cases hdn:N.down
  ·have HE:=Lib.hid (show N.powE d=0 from Bch.powE_ok h0 hdn)
   rw [hdn] at hc
   generalize hdp:dptr H 0 d=P at CP
   have HD:=Lib.hid hdp
   clear h hdp
   unfold ptr at CP ⊢
   go_enter Tryz.func51,Tryz.ntmps51
   go_wp2_with fail
   refine CP.out.mono ?_
   rintro e w' ⟨rfl,rfl⟩
   go_wp2
   go_ret2
   exact ⟨by rw [HE.out,HD.out];rfl,rfl⟩
  ·have HE:=Lib.hid (show N.powE d=6 from Bch.powE_down h0 hdn)
   have HP:=Lib.hid (show dptr H 6 d=.pointer none by unfold dptr;rfl)
   rw [hdn] at hc
   generalize dptr H 0 d=P at CP
   clear h
   unfold ptr at CP ⊢
   go_enter Tryz.func51,Tryz.ntmps51
   go_wp2_with fail
   refine CP.out.mono ?_
   rintro e w' ⟨rfl,rfl⟩
   go_wp2
   go_ret2
   exact ⟨by rw [HE.out,HP.out];rfl,rfl⟩
 ·have HE:=Lib.hid (show N.powE d=N.pickE d from Bch.powE_no h0)
  have HP:=Lib.hid (show dptr H (N.pickE d) d=.pointer none by unfold dptr;rw [if_pos h0])
  have hne:(N.pickE d != 0)=true:=by rw [bne_iff_ne];exact h0
  rw [HP.out] at CP
  generalize N.pickE d=E at CP HE HP hne
  clear h h0
  unfold ptr at CP ⊢
  go_enter Tryz.func51,Tryz.ntmps51
  go_wp2_with fail
  refine CP.out.mono ?_
  rintro e w' ⟨rfl,rfl⟩
  go_wp2
  go_ret2
  exact ⟨by rw [HE.out,HP.out];rfl,rfl⟩
end
end Go.Proofs.YtldfoadildaljaaGreat
end
