/- Texts put together: BchQ, OnGood, Alive, BcSeq, RowOf, BchP, LogGood. -/
import Derived.Test.YtldfoadildaljaaGreatWmax
import Derived.Test.YtldfoadildaljaaGreatWmad
import Derived.Test.YtldfoadildaljaaGreatWmas
import Derived.Test.YtldfoadildaljaaGreatWmav
import Derived.Test.YtldfoadildaljaaGreatWmaw
import Derived.Test.YtldfoadildaljaaGreatWmal
section
set_option maxRecDepth 8000
namespace Go.Proofs.YtldfoadildaljaaGreat
open Go.RowKit
structure BP (W w:World) (b:Nat) (H:BH) (N:Bch):Prop where
 at':BAt w W.heap.size b H N
 bel:Below W.heap.size W w
def BNew (w:World) (b:Nat) (H H':BH) (n:Nat):Prop:=∀ k,BF b H' n k→BF b H n k∨w.heap.size ≤ k
section
variable {W w w':World} {b:Nat} {H:BH} {N:Bch}
theorem BP.to (h:BP W w b H N) {N':Bch} (ht:BTo w w' W.heap.size b H N.n N'):∃ H',BP W w' b H' N'∧Chg (BF b H N.n) w w'∧BNew w b H H' N.n:=by
 obtain ⟨H',a,c,_,m⟩:=ht
 exact ⟨H',⟨a,h.bel.trans (c.below (fun k hk=>(h.at'.flt hk).1) h.bel.size)⟩,c,m⟩
theorem BP.grow (h:BP W w b H N) (hb:Below w.heap.size w w'):BP W w' b H N:=⟨h.at'.below hb,h.bel.trans (hb.mono h.bel.size)⟩
theorem BP.alloc (h:BP W w b H N) (o:Obj):BP W (w.alloc o) b H N:=h.grow (below1 w o)
theorem BP.chg {F:Nat→Prop} (h:BP W w b H N) (hc:Chg F w w') (hF:∀ k,F k→W.heap.size ≤ k) (hn:∀ k,BF b H N.n k→¬ F k):BP W w' b H N :=
 ⟨h.at'.chg hc hn,h.bel.trans (hc.below hF h.bel.size)⟩
end
def BC (W w w':World) (b:Nat) (H:BH) (n:Nat) (N':Bch):Prop:=∃ H',BP W w' b H' N'∧Chg (BF b H n) w w'∧BNew w b H H' n
theorem bp_new (n:Nat) (W w:World) (hb:Below W.heap.size W w) (hn:1 ≤ n∧n ≤ 8):Calls Tryz.prog 26 #[.int .i64 (n:Int)] w fun e w'=>∃ b H,e=.returned (.tuple #[ptr b,.int .i64 0])∧BP W w' b H (Bch.new n)∧Below w.heap.size w w'∧∀ k,BF b H n k→w.heap.size ≤ k:=by
 refine (bch_new_ok n w hn).mono ?_
 rintro e w' ⟨b,H,rfl,a,hb'⟩
 exact ⟨b,H,rfl,⟨a.mono hb.size,hb.trans (hb'.mono hb.size)⟩,hb',fun k hk=>(a.flt hk).1⟩
section
variable (W w:World) (b:Nat) (H:BH) (N:Bch) (h:BP W w b H N)
include h
theorem bp_len:Calls Tryz.prog 96 #[.pointer (some ⟨b,0,none⟩)] w fun e w'=>e=.returned (.int .i64 (N.n:Int))∧w'=w:=bch_len_any _ _ _ _ _ h.at'
theorem bp_pending_eq (hps:∀ i,i < N.n→(N.D i).ps.length ≤ 2000000):Calls Tryz.prog 22 #[.pointer (some ⟨b,0,none⟩)] w fun e w'=>e=.returned (.int .i64 (N.pend:Int))∧w'=w:=bch_pending_eq _ _ _ _ _ h.at' hps
theorem bp_read (d k:Int) (hd:i64B d) (hk:i64B k):Calls Tryz.prog 24 #[.pointer (some ⟨b,0,none⟩),.int .i64 d,.int .i64 k] w fun e w'=>∃ v,e=.returned (.tuple #[v,.int .i64 (N.readE d k)])∧OwB 5 w' w.heap.size v (N.read d k)∧Below w.heap.size w w':=bch_read_any _ _ _ _ _ h.at' d k hd hk
theorem bp_write (d k:Int) (x:List UInt8) (A:Option Addr) (n c:Nat) (hn:n=x.length) (hd:i64B d) (hk:i64B k) (hr:RdB w w.heap.size A x) (hps:∀ i,i < N.n→(N.D i).ps.length ≤ 2000000) (hdn:N.done ≤ 2000000) :
    Calls Tryz.prog 66 #[.pointer (some ⟨b,0,none⟩),.int .i64 d,.int .i64 k,.slice A n c] w fun e w'=>e=.returned (.int .i64 (N.writeE d k n))∧BC W w w' b H N.n (N.write d k x):=by
 refine (bch_write_any _ _ _ _ _ h.at' d k x A n c hn hd hk hr hps hdn).mono ?_
 rintro e w' ⟨rfl,ht⟩
 exact ⟨rfl,h.to ht⟩
theorem bp_flush (d:Int) (hd:i64B d):Calls Tryz.prog 69 #[.pointer (some ⟨b,0,none⟩),.int .i64 d] w fun e w'=>e=.returned (.int .i64 (N.flushE d))∧BC W w w' b H N.n (N.flush d):=by
 refine (bch_flush_any _ _ _ _ _ h.at' d hd).mono ?_
 rintro e w' ⟨rfl,ht⟩
 exact ⟨rfl,h.to ht⟩
theorem bp_fail (d:Int) (hd:i64B d):Calls Tryz.prog 21 #[.pointer (some ⟨b,0,none⟩),.int .i64 d] w fun e w'=>e=.returned (.int .i64 (N.pickE d))∧BC W w w' b H N.n (N.fail d):=by
 refine (bch_fail_any _ _ _ _ _ h.at' d hd).mono ?_
 rintro e w' ⟨rfl,ht⟩
 exact ⟨rfl,h.to ht⟩
end
theorem ptr_eq (b:Nat) (w:World):(binOp .eql 28 (.pointer (some ⟨b,0,none⟩)) (.pointer none)).run Tryz.prog w=.ok (.bool false) w:=rfl
theorem i64n {n:Nat} (h:n ≤ 2000000):i64B (n:Int):=⟨by omega,by omega⟩
namespace Bch
theorem write_ok {N:Bch} {d k:Nat} {x:List UInt8} (hd:d < N.n) (hk:k < 52) (hx:x.length=32) (hf:(N.D d).f=false) (hdn:N.down=false) (hl:N.left ≠ 0) :
    N.writeE (d:Int) (k:Int) x.length=0∧N.write (d:Int) (k:Int) x=(N.set d ((N.D d).write k x)).count:=by
 have hp:N.powE (d:Int)=0:=powE_ok (pickE_ok (by omega) (by omega)) hdn
 have ht:takeE (N.at_ (d:Int)).f (k:Int) x.length=0:=by
  rw [hx,show (N.at_ (d:Int)).f=false from hf];exact takeE_ok (by omega) (by omega)
 constructor
 ·unfold writeE countE
  rw [if_neg (show ¬ N.powE (d:Int) ≠ 0 by simp [hp]),if_neg (fun e=>e ht),if_neg hl]
 ·unfold write
  rw [if_neg (show ¬ N.powE (d:Int) ≠ 0 by simp [hp]),if_neg (fun e=>e ht),if_neg hl]
  rfl
theorem count_free {N:Bch} (h:N.left=-1):N.count={ N with done:=N.done + 1 }:=by
 unfold count
 rw [if_neg (by omega),if_pos h]
 cases N
 simp only at h
 subst h
 rfl
theorem read_ok {N:Bch} {d k:Nat} (hd:d < N.n) (hk:k < 52) (hf:(N.D d).f=false) (hdn:N.down=false):N.readE (d:Int) (k:Int)=0∧N.read (d:Int) (k:Int)=secAt (N.D d).now k:=by
 have hp:N.powE (d:Int)=0:=powE_ok (pickE_ok (by omega) (by omega)) hdn
 have he:N.readE (d:Int) (k:Int)=0:=by
  unfold readE
  rw [if_neg (show ¬ N.powE (d:Int) ≠ 0 by simp [hp]),show (N.at_ (d:Int)).f=false from hf]
  exact reachE_ok (by omega) (by omega)
 refine ⟨he,?_⟩
 unfold read
 rw [if_neg (fun e=>e he)]
 rfl
end Bch
end Go.Proofs.YtldfoadildaljaaGreat
end
section
set_option linter.unusedVariables false
set_option linter.unusedSimpArgs false
namespace Go.Proofs.YtldfoadildaljaaGreat
theorem no1 {b:Bool} {p:Prop} (hb:b=false):¬ (b=true∧p):=fun h=>by rw [hb] at h;exact absurd h.1 (by decide)
theorem no0 {b:Bool} (hb:b=false):¬ b=true:=by rw [hb];decide
theorem no2 {b c:Bool} (hc:c=true):¬ (b=true∧c=false):=fun h=>by rw [hc] at h;exact absurd h.2 (by decide)
def cntTo (N:Bch) (lv:List Bool):Nat→Nat
 | 0=>0
 | i + 1=>cntTo N lv i + if lv.getD i false=true∧(N.D i).f=false then 1 else 0
def wrD (lv:List Bool) (k:Nat) (x:List UInt8) (D:Dsk) (i j:Nat):Dsk:=if j < i∧lv.getD j false=true∧D.f=false then D.write k x else D
def flD (lv:List Bool) (D:Dsk) (i j:Nat):Dsk:=if j < i∧lv.getD j false=true then D.flushE else D
theorem wrD_same {lv:List Bool} {k:Nat} {x:List UInt8} {D:Dsk} {i j:Nat} (h:j ≠ i):wrD lv k x D (i + 1) j=wrD lv k x D i j:=by
 unfold wrD
 by_cases c:j < i
 ·simp only [c,show j < i + 1 by omega]
 ·rw [if_neg (by omega),if_neg (by omega)]
theorem wrD_at {lv:List Bool} {k:Nat} {x:List UInt8} {D:Dsk} {i:Nat}:wrD lv k x D i i=D:=if_neg (by omega)
theorem wrD_next {lv:List Bool} {k:Nat} {x:List UInt8} {D:Dsk} {i:Nat}:wrD lv k x D (i + 1) i=if lv.getD i false=true∧D.f=false then D.write k x else D:=by
 unfold wrD;simp only [show i < i + 1 by omega,true_and]
theorem flD_same {lv:List Bool} {D:Dsk} {i j:Nat} (h:j ≠ i):flD lv D (i + 1) j=flD lv D i j:=by
 unfold flD
 by_cases c:j < i
 ·simp only [c,show j < i + 1 by omega]
 ·rw [if_neg (by omega),if_neg (by omega)]
theorem flD_at {lv:List Bool} {D:Dsk} {i:Nat}:flD lv D i i=D:=if_neg (by omega)
theorem flD_next {lv:List Bool} {D:Dsk} {i:Nat}:flD lv D (i + 1) i=if lv.getD i false=true then D.flushE else D:=by
 unfold flD;simp only [show i < i + 1 by omega,true_and]
structure WrG (N M:Bch) (lv:List Bool) (k:Nat) (x:List UInt8) (i:Nat):Prop where
 n:M.n=N.n
 dn:M.down=false
 lf:M.left=-1
 D:∀ j,M.D j=wrD lv k x (N.D j) i j
 done:M.done=N.done + cntTo N lv i
theorem wrote_good {N:Bch} {lv:List Bool} {k:Nat} {x:List UInt8} (hk:k < 52) (hx:x.length=32) (hd:N.down=false) (hl:N.left=-1):∀ i,i ≤ N.n→(onTo (wrF k x) lv N i).1=0∧WrG N (onTo (wrF k x) lv N i).2 lv k x i
 | 0,_=>⟨rfl,rfl,hd,hl,fun j=>(if_neg (by omega)).symm,rfl⟩
 | i + 1,hi=>by
   obtain ⟨h0,g⟩:=wrote_good (lv:=lv) hk hx hd hl i (by omega)
   have hDi:(onTo (wrF k x) lv N i).2.D i=N.D i:=by rw [g.D i,wrD_at]
   cases hb:lv.getD i false with
   | false =>
     rw [onTo_skip h0 hb]
     refine ⟨h0,g.n,g.dn,g.lf,fun j=>?_,?_⟩
     ·by_cases e:j=i
      ·subst e;rw [hDi,wrD_next,if_neg (no1 hb)]
      ·rw [wrD_same e];exact g.D j
     ·rw [g.done];show _=N.done + (cntTo N lv i + _);rw [if_neg (no1 hb)];omega
   | true =>
     have hpw:(onTo (wrF k x) lv N i).2.powE (i:Int)=0:=Bch.powE_ok (Bch.pickE_ok (by omega) (by rw [g.n];omega)) g.dn
     cases hf:(N.D i).f with
     | true =>
       have ht:takeE ((onTo (wrF k x) lv N i).2.at_ (i:Int)).f (k:Int) x.length=5:=by
        rw [show ((onTo (wrF k x) lv N i).2.at_ (i:Int))=(onTo (wrF k x) lv N i).2.D i from rfl,hDi,hf];exact takeE_fail _ _
       have e1:(wrF k x (onTo (wrF k x) lv N i).2 i).1=5:=by
        show (onTo (wrF k x) lv N i).2.writeE _ _ _=5
        unfold Bch.writeE;rw [if_neg (by simp [hpw]),if_pos (by rw [ht];decide),ht]
       have e2:(wrF k x (onTo (wrF k x) lv N i).2 i).2=(onTo (wrF k x) lv N i).2:=by
        show (onTo (wrF k x) lv N i).2.write _ _ _=_
        unfold Bch.write;rw [if_neg (by simp [hpw]),if_pos (by rw [ht];decide)]
       rw [onTo_pass h0 hb e1,e2]
       refine ⟨rfl,g.n,g.dn,g.lf,fun j=>?_,?_⟩
       ·by_cases e:j=i
        ·subst e;show (onTo (wrF k x) lv N j).2.D j=_;rw [hDi,wrD_next,if_neg (no2 hf)]
        ·rw [wrD_same e];exact g.D j
       ·show (onTo (wrF k x) lv N i).2.done=N.done + (cntTo N lv i + _)
        rw [g.done,if_neg (no2 hf)];omega
     | false =>
       have hw:=Bch.write_ok (N:=(onTo (wrF k x) lv N i).2) (d:=i) (k:=k) (x:=x) (by rw [g.n];omega) hk hx (by rw [hDi,hf]) g.dn (by rw [g.lf];decide)
       rw [Bch.count_free (by exact g.lf),hDi] at hw
       have e1:(wrF k x (onTo (wrF k x) lv N i).2 i).1=0:=hw.1
       rw [onTo_goes h0 hb (by rw [e1];decide)]
       refine ⟨e1,?_⟩
       show WrG N ((onTo (wrF k x) lv N i).2.write (i:Int) (k:Int) x) lv k x (i + 1)
       rw [hw.2]
       refine ⟨g.n,g.dn,g.lf,fun j=>?_,?_⟩
       ·show upd (onTo (wrF k x) lv N i).2.D i _ j=_
        by_cases e:j=i
        ·subst e;rw [upd_same,wrD_next,if_pos ⟨hb,hf⟩]
        ·rw [upd_other _ _ e,wrD_same e];exact g.D j
       ·show (onTo (wrF k x) lv N i).2.done + 1=N.done + (cntTo N lv i + _)
        rw [g.done,if_pos ⟨hb,hf⟩];omega
structure FlG (N M:Bch) (lv:List Bool) (i:Nat):Prop where
 n:M.n=N.n
 dn:M.down=false
 lf:M.left=N.left
 D:∀ j,M.D j=flD lv (N.D j) i j
 done:M.done=N.done
theorem flushed_good {N:Bch} {lv:List Bool} (hd:N.down=false):∀ i,i ≤ N.n→(onTo flF lv N i).1=0∧FlG N (onTo flF lv N i).2 lv i
 | 0,_=>⟨rfl,rfl,hd,rfl,fun j=>(if_neg (by omega)).symm,rfl⟩
 | i + 1,hi=>by
   obtain ⟨h0,g⟩:=flushed_good (lv:=lv) hd i (by omega)
   have hDi:(onTo flF lv N i).2.D i=N.D i:=by rw [g.D i,flD_at]
   cases hb:lv.getD i false with
   | false =>
     rw [onTo_skip h0 hb]
     refine ⟨h0,g.n,g.dn,g.lf,fun j=>?_,g.done⟩
     by_cases e:j=i
     ·subst e;rw [hDi,flD_next,if_neg (no0 hb)]
     ·rw [flD_same e];exact g.D j
   | true =>
     have hpw:(onTo flF lv N i).2.powE (i:Int)=0:=Bch.powE_ok (Bch.pickE_ok (by omega) (by rw [g.n];omega)) g.dn
     have e2:(flF (onTo flF lv N i).2 i).2=(onTo flF lv N i).2.set i (N.D i).flushE:=by
      show (onTo flF lv N i).2.flush _=_
      unfold Bch.flush;rw [if_neg (by simp [hpw])]
      show (onTo flF lv N i).2.set i ((onTo flF lv N i).2.D i).flushE=_
      rw [hDi]
     have hg:FlG N ((onTo flF lv N i).2.set i (N.D i).flushE) lv (i + 1):=by
      refine ⟨g.n,g.dn,g.lf,fun j=>?_,g.done⟩
      show upd (onTo flF lv N i).2.D i _ j=_
      by_cases e:j=i
      ·subst e;rw [upd_same,flD_next,if_pos hb]
      ·rw [upd_other _ _ e,flD_same e];exact g.D j
     cases hf:(N.D i).f with
     | true =>
       have e1:(flF (onTo flF lv N i).2 i).1=5:=by
        show (onTo flF lv N i).2.flushE _=5
        unfold Bch.flushE;rw [if_neg (by simp [hpw]),if_pos]
        show ((onTo flF lv N i).2.D i).f=true
        rw [hDi];exact hf
       rw [onTo_pass h0 hb e1,e2]
       exact ⟨rfl,hg⟩
     | false =>
       have e1:(flF (onTo flF lv N i).2 i).1=0:=by
        show (onTo flF lv N i).2.flushE _=0
        unfold Bch.flushE;rw [if_neg (by simp [hpw]),if_neg]
        show ¬ ((onTo flF lv N i).2.D i).f=true
        rw [hDi,hf];decide
       rw [onTo_goes h0 hb (by rw [e1];decide)]
       exact ⟨e1,by rw [e2];exact hg⟩
end Go.Proofs.YtldfoadildaljaaGreat
end
section
set_option maxRecDepth 20000
set_option linter.unusedVariables false
set_option linter.unusedSimpArgs false
namespace Go.Proofs.YtldfoadildaljaaGreat
open Go.RowKit
def alvD (n:Nat) (lv:List Bool) (d:Int):Bool:=decide (0 ≤ d) && (decide (d < (n:Int)) && lv.getD d.toNat false)
theorem alvD_nat (n:Nat) (lv:List Bool) (j:Nat):alvD n lv (j:Int)=(decide (j < n) && lv.getD j false):=by
 unfold alvD
 rw [decide_eq_true (show (0:Int) ≤ (j:Int) by omega),Bool.true_and,Int.toNat_natCast]
 congr 1
 exact decide_eq_decide.2 (by omega)
theorem alvIs_any (B b:Nat) (H:BH) (N:Bch) (w:World) (h:BAt w B b H N) (lv:List Bool) (A:Option Addr) (n c:Nat) (hn:n=lv.length) (hv:RdO w w.heap.size A lv) (d:Int) (h0:-1000000 ≤ d) (h1:d ≤ 1000000) :
    Calls Tryz.prog 88 #[.pointer (some ⟨b,0,none⟩),.slice A n c,.int .i64 d] w fun e w'=>e=.returned (.bool (alvD N.n lv d))∧w'=w:=by
 subst hn
 have CL:=Lib.hid (bch_len_any B b H N w h)
 have hn8:=h.ok.n
 have hlv:=hv.1
 clear h
 unfold ptr at CL
 by_cases c0:0 ≤ d
 ·obtain ⟨j,rfl⟩:∃ j:Nat,d=(j:Int):=⟨d.toNat,by omega⟩
  by_cases c1:j < N.n
  ·have i1:(j:Int) < (N.n:Int):=by omega
   by_cases c2:j < lv.length
   ·have i2:(j:Int) < (lv.length:Int):=by omega
    obtain ⟨lb,off,rfl,hlb,hcv⟩:=hv.2 (by omega)
    have hcl:=hcv j c2
    have R:=Lib.hid (show alvD N.n lv (j:Int)=lv.getD j false by rw [alvD_nat,decide_eq_true c1];rfl)
    clear hcv hv c1 c2
    generalize lv.getD j false=x at hcl R
    go_enter Tryz.func88,Tryz.ntmps88
    go_wp2_with (refine CL.out.mono ?_;rintro e w' ⟨rfl,rfl⟩)
    go_ret
    exact ⟨by rw [R.out];rfl,rfl⟩
   ·have i2:¬ ((j:Int) < (lv.length:Int)):=by omega
    have R:=Lib.hid (show alvD N.n lv (j:Int)=false by
     rw [alvD_nat,decide_eq_true c1]
     show lv.getD j false=false
     rw [List.getD_eq_getElem?_getD,List.getElem?_eq_none (by omega)];rfl)
    clear hv c1 c2
    go_enter Tryz.func88,Tryz.ntmps88
    go_wp2_with (refine CL.out.mono ?_;rintro e w' ⟨rfl,rfl⟩)
    go_ret
    exact ⟨by rw [R.out];rfl,rfl⟩
  ·have i1:¬ ((j:Int) < (N.n:Int)):=by omega
   have R:=Lib.hid (show alvD N.n lv (j:Int)=false by rw [alvD_nat,decide_eq_false c1];rfl)
   clear hv c1
   go_enter Tryz.func88,Tryz.ntmps88
   go_wp2_with (refine CL.out.mono ?_;rintro e w' ⟨rfl,rfl⟩)
   go_ret
   exact ⟨by rw [R.out];rfl,rfl⟩
 ·have i1:¬ (d ≥ 0):=c0
  have R:=Lib.hid (show alvD N.n lv d=false by unfold alvD;rw [decide_eq_false c0];rfl)
  clear hv CL
  go_enter Tryz.func88,Tryz.ntmps88
  go_wp2
  go_ret
  exact ⟨by rw [R.out];rfl,rfl⟩
theorem alvFailed {N:Bch} {j:Nat} (h:j < N.n):N.failed (j:Int)=(N.D j).f:=by
 unfold Bch.failed
 rw [if_neg (by rw [Bch.pickE_ok (by omega) (by omega)];simp)]
 rfl
def alvS (N:Bch) (lv:List Bool) (d:Int):Bool:=alvD N.n lv d && !(N.D d.toNat).f
theorem alvServes_any (B b:Nat) (H:BH) (N:Bch) (w:World) (h:BAt w B b H N) (lv:List Bool) (A:Option Addr) (n c:Nat) (hn:n=lv.length) (hv:RdO w w.heap.size A lv) (d:Int) (h0:-1000000 ≤ d) (h1:d ≤ 1000000) :
    Calls Tryz.prog 65 #[.pointer (some ⟨b,0,none⟩),.slice A n c,.int .i64 d] w fun e w'=>e=.returned (.bool (alvS N lv d))∧w'=w:=by
 have CL:=Lib.hid (alvIs_any B b H N w h lv A n c hn hv d h0 h1)
 have CF:=Lib.hid (bch_failed_any B b H N w h d (by constructor <;> omega))
 have R:Hid (alvS N lv d=(alvD N.n lv d && !(N.D d.toNat).f)):=rfl
 have RF:=Lib.hid (show alvD N.n lv d=true→N.failed d=(N.D d.toNat).f from fun q=>by
  unfold alvD at q
  simp only [Bool.and_eq_true,decide_eq_true_eq] at q
  have:=alvFailed (N:=N) (j:=d.toNat) (by omega)
  rw [← this];congr 1;omega)
 clear hv h hn
 unfold ptr at CF
 cases hx:alvD N.n lv d with
 | false =>
   rw [hx] at CL R
   clear CF RF hx
   go_enter Tryz.func65,Tryz.ntmps65
   go_wp2_with (refine CL.out.mono ?_;rintro e w' ⟨rfl,rfl⟩)
   go_ret
   exact ⟨by rw [R.out];rfl,rfl⟩
 | true =>
   rw [RF.out hx] at CF
   rw [hx] at CL R
   clear RF hx
   generalize (N.D d.toNat).f=y at CF R
   go_enter Tryz.func65,Tryz.ntmps65
   go_wp2_with (first
    |(go_at_call 88;refine CL.out.mono ?_;rintro e w' ⟨rfl,rfl⟩)
    |(go_at_call 89;refine CF.out.mono ?_;rintro e w' ⟨rfl,rfl⟩))
   go_ret
   exact ⟨by rw [R.out];rfl,rfl⟩
end Go.Proofs.YtldfoadildaljaaGreat
end
section
set_option linter.unusedVariables false
set_option linter.unusedSimpArgs false
namespace Go.Proofs.YtldfoadildaljaaGreat
open Go.RowKit
section
variable {W w w1 w2:World} {b n:Nat} {H H1:BH} {N2:Bch}
theorem BC.seq (c1:Chg (BF b H n) w w1) (n1:BNew w b H H1 n) (h2:BC W w1 w2 b H1 n N2):BC W w w2 b H n N2:=by
 obtain ⟨H2,a2,c2,m2⟩:=h2
 refine ⟨H2,a2,c1.trans c2 fun k hk e=>?_,fun k hk=>?_⟩
 ·rcases n1 k e with h | h
  ·exact h
  ·omega
 ·rcases m2 k hk with h | h
  ·exact n1 k h
  ·exact .inr (Nat.le_trans c1.size h)
theorem BC.below (hb:Below w.heap.size w w1) (h2:BC W w1 w2 b H n N2):BC W w w2 b H n N2:=h2.seq (chg_below _ hb) fun _ h=>.inl h
theorem BP.self {N:Bch} (h:BP W w b H N):BC W w w b H N.n N:=⟨H,h,Chg.refl _ _,fun _ h=>.inl h⟩
theorem BC.off {k:Nat} (h1:BNew w b H H1 n) (hk:k < w.heap.size) (o:¬ BF b H n k):¬ BF b H1 n k:=fun e=>by
 rcases h1 k e with h | h
 ·exact o h
 ·omega
end
end Go.Proofs.YtldfoadildaljaaGreat
end
section
set_option maxRecDepth 8000
set_option linter.unusedVariables false
set_option linter.unusedSimpArgs false
namespace Go.Proofs.YtldfoadildaljaaGreat
open Go.RowKit
def rowOf (F:Nat→Value) (n:Nat):List Value:=(List.range n).map F
theorem rowOf_len (F:Nat→Value) (n:Nat):(rowOf F n).length=n:=by unfold rowOf;simp
theorem rowOf_get {n i:Nat} (F:Nat→Value) (h:i < n):(rowOf F n)[i]?=some (F i):=by unfold rowOf;simp [h]
theorem rowOf_set {n i:Nat} (F:Nat→Value) (v:Value) (h:i < n):spl (rowOf F n) i [v]=rowOf (upd F i v) n:=by
 apply List.ext_getElem?
 intro j
 have hl:((rowOf F n).take i).length=i:=by rw [List.length_take,rowOf_len];omega
 unfold spl
 rw [List.append_assoc]
 by_cases hj:j < i
 ·rw [List.getElem?_append_left (by omega),List.getElem?_take,if_pos hj,rowOf_get _ (by omega),rowOf_get _ (by omega),upd_other _ _ (by omega)]
 ·rw [List.getElem?_append_right (by omega),hl]
  by_cases e:j=i
  ·subst e;rw [Nat.sub_self,rowOf_get _ h,upd_same];rfl
  ·obtain ⟨k,hk⟩:∃ k,j - i=k + 1:=⟨j - i - 1,by omega⟩
   rw [hk,List.cons_append,List.getElem?_cons_succ,List.nil_append,List.getElem?_drop]
   rw [show i + [v].length + k=j by simp;omega]
   by_cases hjn:j < n
   ·rw [rowOf_get _ hjn,rowOf_get _ hjn,upd_other _ _ e]
   ·rw [List.getElem?_eq_none (by rw [rowOf_len];omega),List.getElem?_eq_none (by rw [rowOf_len];omega)]
theorem rowOf_made (z:Value) (n:Nat):madeCells #[z] n=(rowOf (fun _=>z) n).toArray:=by
 apply Array.toList_inj.1
 apply List.ext_getElem?
 intro j
 rw [toList_madeCells_one,List.getElem?_replicate]
 by_cases h:j < n
 ·rw [if_pos h]
  show _=(rowOf (fun _=>z) n)[j]?
  rw [rowOf_get _ h]
 ·rw [if_neg h]
  show _=(rowOf (fun _=>z) n)[j]?
  rw [List.getElem?_eq_none (by rw [rowOf_len];omega)]
theorem info_boo:(Tryz.prog.info? 4).map (fun i=>(i.zero,i.size,i.bytes))=some (some (.bool false),1,1):=by kernel_rfl
theorem make_bools (n:Nat) (hn:n ≤ 1000000) (w:World):(Instr.makeSlice 23 (.int .i64 (n:Int)) (.int .i64 (n:Int))).run Tryz.prog w=.ok (.slice (some ⟨w.heap.size,0,none⟩) n n) (w.alloc (.cells (rowOf (fun _=>.bool false) n).toArray 4)):=by
 rw [← rowOf_made (.bool false) n]
 exact run_make_row' _ _ _ 1 Tryz.underlying23 info_boo rfl _ _ n (by omega) (by omega) w
end Go.Proofs.YtldfoadildaljaaGreat
end
section
namespace Go.Proofs.YtldfoadildaljaaGreat
open Go.RowKit
section
variable (W w:World) (b:Nat) (H:BH) (N:Bch) (h:BP W w b H N)
include h
end
end Go.Proofs.YtldfoadildaljaaGreat
end
section
set_option linter.unusedVariables false
set_option linter.unusedSimpArgs false
namespace Go.Proofs.YtldfoadildaljaaGreat
end Go.Proofs.YtldfoadildaljaaGreat
end
