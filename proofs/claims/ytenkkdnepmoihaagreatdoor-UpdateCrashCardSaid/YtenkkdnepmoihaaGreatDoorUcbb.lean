/- Texts put together: BchQ, Alive, BcSeq, OnGood, RowOf, LogGood, BchP. -/
import Derived.Test.YtenkkdnepmoihaaGreatDoorUcba
import Derived.Test.YtenkkdnepmoihaaGreatDoorUcac
import Derived.Test.YtenkkdnepmoihaaGreatDoorUcav
import Derived.Test.YtenkkdnepmoihaaGreatDoorUcax
import Derived.Test.YtenkkdnepmoihaaGreatDoorUcal
import Derived.Test.YtenkkdnepmoihaaGreatDoorUcay
import Derived.Test.YtenkkdnepmoihaaGreatDoorUcaz
section
set_option maxRecDepth 8000
namespace Go.Proofs.YtenkkdnepmoihaaGreatDoor
open Go.RowKit
structure BP (W w:World) (b:Nat) (H:BH) (N:Bch):Prop where
 at':BAt w W.heap.size b H N
 bel:Below W.heap.size W w
def BNew (w:World) (b:Nat) (H H':BH) (n:Nat):Prop:=∀ k,BF b H' n k→BF b H n k∨w.heap.size ≤ k
section
variable {W w w':World} {b:Nat} {H:BH} {N:Bch}
theorem BP.to (h:BP W w b H N) {N':Bch} (ht:BTo w w' W.heap.size b H N.n N'):∃ H',BP W w' b H' N'∧Chg (BF b H N.n) w w'∧BNew w b H H' N.n:=by
 obtain ⟨H',a,c,_,m⟩:=ht
 exact ⟨H',⟨a,h.bel.trans (c.below (fun k hk=>(h.at'.flt hk).1) h.bel.size)⟩,c,m⟩
theorem BP.grow (h:BP W w b H N) (hb:Below w.heap.size w w'):BP W w' b H N:=⟨h.at'.below hb,h.bel.trans (hb.mono h.bel.size)⟩
theorem BP.alloc (h:BP W w b H N) (o:Obj):BP W (w.alloc o) b H N:=h.grow (below1 w o)
theorem BP.chg {F:Nat→Prop} (h:BP W w b H N) (hc:Chg F w w') (hF:∀ k,F k→W.heap.size ≤ k) (hn:∀ k,BF b H N.n k→¬ F k):BP W w' b H N :=
 ⟨h.at'.chg hc hn,h.bel.trans (hc.below hF h.bel.size)⟩
end
def BC (W w w':World) (b:Nat) (H:BH) (n:Nat) (N':Bch):Prop:=∃ H',BP W w' b H' N'∧Chg (BF b H n) w w'∧BNew w b H H' n
theorem bp_new (n:Nat) (W w:World) (hb:Below W.heap.size W w) (hn:1 ≤ n∧n ≤ 8):Calls Tryz.prog 38 #[.int .i64 (n:Int)] w fun e w'=>∃ b H,e=.returned (.tuple #[ptr b,.int .i64 0])∧BP W w' b H (Bch.new n)∧Below w.heap.size w w'∧∀ k,BF b H n k→w.heap.size ≤ k:=by
 refine (bch_new_ok n w hn).mono ?_
 rintro e w' ⟨b,H,rfl,a,hb'⟩
 exact ⟨b,H,rfl,⟨a.mono hb.size,hb.trans (hb'.mono hb.size)⟩,hb',fun k hk=>(a.flt hk).1⟩
section
variable (W w:World) (b:Nat) (H:BH) (N:Bch) (h:BP W w b H N)
include h
theorem bp_limit (v:Int) (hv:i64B v):Calls Tryz.prog 25 #[.pointer (some ⟨b,0,none⟩),.int .i64 v] w fun e w'=>e=.returned (.tuple #[])∧BC W w w' b H N.n (N.limit v):=by
 refine (bch_limit_any _ _ _ _ _ h.at' v hv).mono ?_
 rintro e w' ⟨rfl,ht⟩
 exact ⟨rfl,h.to ht⟩
theorem bp_write (d k:Int) (x:List UInt8) (A:Option Addr) (n c:Nat) (hn:n=x.length) (hd:i64B d) (hk:i64B k) (hr:RdB w w.heap.size A x) (hps:∀ i,i < N.n→(N.D i).ps.length ≤ 2000000) (hdn:N.done ≤ 2000000) :
    Calls Tryz.prog 94 #[.pointer (some ⟨b,0,none⟩),.int .i64 d,.int .i64 k,.slice A n c] w fun e w'=>e=.returned (.int .i64 (N.writeE d k n))∧BC W w w' b H N.n (N.write d k x):=by
 refine (bch_write_any _ _ _ _ _ h.at' d k x A n c hn hd hk hr hps hdn).mono ?_
 rintro e w' ⟨rfl,ht⟩
 exact ⟨rfl,h.to ht⟩
theorem bp_flush (d:Int) (hd:i64B d):Calls Tryz.prog 96 #[.pointer (some ⟨b,0,none⟩),.int .i64 d] w fun e w'=>e=.returned (.int .i64 (N.flushE d))∧BC W w w' b H N.n (N.flush d):=by
 refine (bch_flush_any _ _ _ _ _ h.at' d hd).mono ?_
 rintro e w' ⟨rfl,ht⟩
 exact ⟨rfl,h.to ht⟩
theorem bp_fail (d:Int) (hd:i64B d):Calls Tryz.prog 29 #[.pointer (some ⟨b,0,none⟩),.int .i64 d] w fun e w'=>e=.returned (.int .i64 (N.pickE d))∧BC W w w' b H N.n (N.fail d):=by
 refine (bch_fail_any _ _ _ _ _ h.at' d hd).mono ?_
 rintro e w' ⟨rfl,ht⟩
 exact ⟨rfl,h.to ht⟩
end
theorem ptr_eq (b:Nat) (w:World):(binOp .eql 26 (.pointer (some ⟨b,0,none⟩)) (.pointer none)).run Tryz.prog w=.ok (.bool false) w:=rfl
namespace Bch
theorem write_ok {N:Bch} {d k:Nat} {x:List UInt8} (hd:d < N.n) (hk:k < 52) (hx:x.length=32) (hf:(N.D d).f=false) (hdn:N.down=false) (hl:N.left ≠ 0) :
    N.writeE (d:Int) (k:Int) x.length=0∧N.write (d:Int) (k:Int) x=(N.set d ((N.D d).write k x)).count:=by
 have hp:N.powE (d:Int)=0:=powE_ok (pickE_ok (by omega) (by omega)) hdn
 have ht:takeE (N.at_ (d:Int)).f (k:Int) x.length=0:=by
  rw [hx,show (N.at_ (d:Int)).f=false from hf];exact takeE_ok (by omega) (by omega)
 constructor
 ·unfold writeE countE
  rw [if_neg (show ¬ N.powE (d:Int) ≠ 0 by simp [hp]),if_neg (fun e=>e ht),if_neg hl]
 ·unfold write
  rw [if_neg (show ¬ N.powE (d:Int) ≠ 0 by simp [hp]),if_neg (fun e=>e ht),if_neg hl]
  rfl
theorem count_free {N:Bch} (h:N.left=-1):N.count={ N with done:=N.done + 1 }:=by
 unfold count
 rw [if_neg (by omega),if_pos h]
 cases N
 simp only at h
 subst h
 rfl
theorem read_ok {N:Bch} {d k:Nat} (hd:d < N.n) (hk:k < 52) (hf:(N.D d).f=false) (hdn:N.down=false):N.readE (d:Int) (k:Int)=0∧N.read (d:Int) (k:Int)=secAt (N.D d).now k:=by
 have hp:N.powE (d:Int)=0:=powE_ok (pickE_ok (by omega) (by omega)) hdn
 have he:N.readE (d:Int) (k:Int)=0:=by
  unfold readE
  rw [if_neg (show ¬ N.powE (d:Int) ≠ 0 by simp [hp]),show (N.at_ (d:Int)).f=false from hf]
  exact reachE_ok (by omega) (by omega)
 refine ⟨he,?_⟩
 unfold read
 rw [if_neg (fun e=>e he)]
 rfl
end Bch
end Go.Proofs.YtenkkdnepmoihaaGreatDoor
end
section
set_option maxRecDepth 20000
set_option linter.unusedVariables false
set_option linter.unusedSimpArgs false
namespace Go.Proofs.YtenkkdnepmoihaaGreatDoor
open Go.RowKit
def alvD (n:Nat) (lv:List Bool) (d:Int):Bool:=decide (0 ≤ d) && (decide (d < (n:Int)) && lv.getD d.toNat false)
theorem alvD_nat (n:Nat) (lv:List Bool) (j:Nat):alvD n lv (j:Int)=(decide (j < n) && lv.getD j false):=by
 unfold alvD
 rw [decide_eq_true (show (0:Int) ≤ (j:Int) by omega),Bool.true_and,Int.toNat_natCast]
 congr 1
 exact decide_eq_decide.2 (by omega)
theorem alvIs_any (B b:Nat) (H:BH) (N:Bch) (w:World) (h:BAt w B b H N) (lv:List Bool) (A:Option Addr) (n c:Nat) (hn:n=lv.length) (hv:RdO w w.heap.size A lv) (d:Int) (h0:-1000000 ≤ d) (h1:d ≤ 1000000) :
    Calls Tryz.prog 46 #[.pointer (some ⟨b,0,none⟩),.slice A n c,.int .i64 d] w fun e w'=>e=.returned (.bool (alvD N.n lv d))∧w'=w:=by
 subst hn
 have CL:=Lib.hid (bch_len_any B b H N w h)
 have hn8:=h.ok.n
 have hlv:=hv.1
 clear h
 unfold ptr at CL
 by_cases c0:0 ≤ d
 ·obtain ⟨j,rfl⟩:∃ j:Nat,d=(j:Int):=⟨d.toNat,by omega⟩
  by_cases c1:j < N.n
  ·have i1:(j:Int) < (N.n:Int):=by omega
   by_cases c2:j < lv.length
   ·have i2:(j:Int) < (lv.length:Int):=by omega
    obtain ⟨lb,off,rfl,hlb,hcv⟩:=hv.2 (by omega)
    have hcl:=hcv j c2
    have R:=Lib.hid (show alvD N.n lv (j:Int)=lv.getD j false by rw [alvD_nat,decide_eq_true c1];rfl)
    clear hcv hv c1 c2
    generalize lv.getD j false=x at hcl R
    go_enter Tryz.func46,Tryz.ntmps46
    go_wp2_with (refine CL.out.mono ?_;rintro e w' ⟨rfl,rfl⟩)
    go_ret
    exact ⟨by rw [R.out];rfl,rfl⟩
   ·have i2:¬ ((j:Int) < (lv.length:Int)):=by omega
    have R:=Lib.hid (show alvD N.n lv (j:Int)=false by
     rw [alvD_nat,decide_eq_true c1]
     show lv.getD j false=false
     rw [List.getD_eq_getElem?_getD,List.getElem?_eq_none (by omega)];rfl)
    clear hv c1 c2
    go_enter Tryz.func46,Tryz.ntmps46
    go_wp2_with (refine CL.out.mono ?_;rintro e w' ⟨rfl,rfl⟩)
    go_ret
    exact ⟨by rw [R.out];rfl,rfl⟩
  ·have i1:¬ ((j:Int) < (N.n:Int)):=by omega
   have R:=Lib.hid (show alvD N.n lv (j:Int)=false by rw [alvD_nat,decide_eq_false c1];rfl)
   clear hv c1
   go_enter Tryz.func46,Tryz.ntmps46
   go_wp2_with (refine CL.out.mono ?_;rintro e w' ⟨rfl,rfl⟩)
   go_ret
   exact ⟨by rw [R.out];rfl,rfl⟩
 ·have i1:¬ (d ≥ 0):=c0
  have R:=Lib.hid (show alvD N.n lv d=false by unfold alvD;rw [decide_eq_false c0];rfl)
  clear hv CL
  go_enter Tryz.func46,Tryz.ntmps46
  go_wp2
  go_ret
  exact ⟨by rw [R.out];rfl,rfl⟩
theorem alvFailed {N:Bch} {j:Nat} (h:j < N.n):N.failed (j:Int)=(N.D j).f:=by
 unfold Bch.failed
 rw [if_neg (by rw [Bch.pickE_ok (by omega) (by omega)];simp)]
 rfl
def alvS (N:Bch) (lv:List Bool) (d:Int):Bool:=alvD N.n lv d && !(N.D d.toNat).f
theorem alvServes_any (B b:Nat) (H:BH) (N:Bch) (w:World) (h:BAt w B b H N) (lv:List Bool) (A:Option Addr) (n c:Nat) (hn:n=lv.length) (hv:RdO w w.heap.size A lv) (d:Int) (h0:-1000000 ≤ d) (h1:d ≤ 1000000) :
    Calls Tryz.prog 49 #[.pointer (some ⟨b,0,none⟩),.slice A n c,.int .i64 d] w fun e w'=>e=.returned (.bool (alvS N lv d))∧w'=w:=by
 have CL:=Lib.hid (alvIs_any B b H N w h lv A n c hn hv d h0 h1)
 have CF:=Lib.hid (bch_failed_any B b H N w h d (by constructor <;> omega))
 have R:Hid (alvS N lv d=(alvD N.n lv d && !(N.D d.toNat).f)):=rfl
 have RF:=Lib.hid (show alvD N.n lv d=true→N.failed d=(N.D d.toNat).f from fun q=>by
  unfold alvD at q
  simp only [Bool.and_eq_true,decide_eq_true_eq] at q
  have:=alvFailed (N:=N) (j:=d.toNat) (by omega)
  rw [← this];congr 1;omega)
 clear hv h hn
 unfold ptr at CF
 cases hx:alvD N.n lv d with
 | false =>
   rw [hx] at CL R
   clear CF RF hx
   go_enter Tryz.func49,Tryz.ntmps49
   go_wp2_with (refine CL.out.mono ?_;rintro e w' ⟨rfl,rfl⟩)
   go_ret
   exact ⟨by rw [R.out];rfl,rfl⟩
 | true =>
   rw [RF.out hx] at CF
   rw [hx] at CL R
   clear RF hx
   generalize (N.D d.toNat).f=y at CF R
   go_enter Tryz.func49,Tryz.ntmps49
   go_wp2_with (first
    |(go_at_call 46;refine CL.out.mono ?_;rintro e w' ⟨rfl,rfl⟩)
    |(go_at_call 82;refine CF.out.mono ?_;rintro e w' ⟨rfl,rfl⟩))
   go_ret
   exact ⟨by rw [R.out];rfl,rfl⟩
end Go.Proofs.YtenkkdnepmoihaaGreatDoor
end
section
set_option linter.unusedVariables false
set_option linter.unusedSimpArgs false
namespace Go.Proofs.YtenkkdnepmoihaaGreatDoor
open Go.RowKit
section
variable {W w w1 w2:World} {b n:Nat} {H H1:BH} {N2:Bch}
theorem BC.seq (c1:Chg (BF b H n) w w1) (n1:BNew w b H H1 n) (h2:BC W w1 w2 b H1 n N2):BC W w w2 b H n N2:=by
 obtain ⟨H2,a2,c2,m2⟩:=h2
 refine ⟨H2,a2,c1.trans c2 fun k hk e=>?_,fun k hk=>?_⟩
 ·rcases n1 k e with h | h
  ·exact h
  ·omega
 ·rcases m2 k hk with h | h
  ·exact n1 k h
  ·exact .inr (Nat.le_trans c1.size h)
theorem BC.below (hb:Below w.heap.size w w1) (h2:BC W w1 w2 b H n N2):BC W w w2 b H n N2:=h2.seq (chg_below _ hb) fun _ h=>.inl h
theorem BC.then (h1:BC W w w1 b H n N2) (hb:Below w1.heap.size w1 w2):BC W w w2 b H n N2:=by
 obtain ⟨H1,a1,c1,m1⟩:=h1
 exact ⟨H1,a1.grow hb,c1.ofBelow hb c1.size,m1⟩
theorem BP.self {N:Bch} (h:BP W w b H N):BC W w w b H N.n N:=⟨H,h,Chg.refl _ _,fun _ h=>.inl h⟩
theorem BC.off {k:Nat} (h1:BNew w b H H1 n) (hk:k < w.heap.size) (o:¬ BF b H n k):¬ BF b H1 n k:=fun e=>by
 rcases h1 k e with h | h
 ·exact o h
 ·omega
end
theorem cell_chg {F:Nat→Prop} {w w':World} {p o:Nat} {v:Value} (h:w.cell? ⟨p,o,none⟩=some v) (hc:Chg F w w') (ho:¬ F p):w'.cell? ⟨p,o,none⟩=some v :=
 (World.cell?_of_block (a:=⟨p,o,none⟩) (hc.block p (World.block_lt_of_cell? _ _ h) ho)).trans h
end Go.Proofs.YtenkkdnepmoihaaGreatDoor
end
section
set_option linter.unusedVariables false
set_option linter.unusedSimpArgs false
namespace Go.Proofs.YtenkkdnepmoihaaGreatDoor
end Go.Proofs.YtenkkdnepmoihaaGreatDoor
end
section
set_option maxRecDepth 8000
set_option linter.unusedVariables false
set_option linter.unusedSimpArgs false
namespace Go.Proofs.YtenkkdnepmoihaaGreatDoor
open Go.RowKit
def rowOf (F:Nat→Value) (n:Nat):List Value:=(List.range n).map F
theorem rowOf_len (F:Nat→Value) (n:Nat):(rowOf F n).length=n:=by unfold rowOf;simp
theorem rowOf_get {n i:Nat} (F:Nat→Value) (h:i < n):(rowOf F n)[i]?=some (F i):=by unfold rowOf;simp [h]
theorem rowOf_set {n i:Nat} (F:Nat→Value) (v:Value) (h:i < n):spl (rowOf F n) i [v]=rowOf (upd F i v) n:=by
 apply List.ext_getElem?
 intro j
 have hl:((rowOf F n).take i).length=i:=by rw [List.length_take,rowOf_len];omega
 unfold spl
 rw [List.append_assoc]
 by_cases hj:j < i
 ·rw [List.getElem?_append_left (by omega),List.getElem?_take,if_pos hj,rowOf_get _ (by omega),rowOf_get _ (by omega),upd_other _ _ (by omega)]
 ·rw [List.getElem?_append_right (by omega),hl]
  by_cases e:j=i
  ·subst e;rw [Nat.sub_self,rowOf_get _ h,upd_same];rfl
  ·obtain ⟨k,hk⟩:∃ k,j - i=k + 1:=⟨j - i - 1,by omega⟩
   rw [hk,List.cons_append,List.getElem?_cons_succ,List.nil_append,List.getElem?_drop]
   rw [show i + [v].length + k=j by simp;omega]
   by_cases hjn:j < n
   ·rw [rowOf_get _ hjn,rowOf_get _ hjn,upd_other _ _ e]
   ·rw [List.getElem?_eq_none (by rw [rowOf_len];omega),List.getElem?_eq_none (by rw [rowOf_len];omega)]
theorem rowOf_made (z:Value) (n:Nat):madeCells #[z] n=(rowOf (fun _=>z) n).toArray:=by
 apply Array.toList_inj.1
 apply List.ext_getElem?
 intro j
 rw [toList_madeCells_one,List.getElem?_replicate]
 by_cases h:j < n
 ·rw [if_pos h]
  show _=(rowOf (fun _=>z) n)[j]?
  rw [rowOf_get _ h]
 ·rw [if_neg h]
  show _=(rowOf (fun _=>z) n)[j]?
  rw [List.getElem?_eq_none (by rw [rowOf_len];omega)]
theorem info_boo:(Tryz.prog.info? 4).map (fun i=>(i.zero,i.size,i.bytes))=some (some (.bool false),1,1):=by kernel_rfl
theorem make_bools (n:Nat) (hn:n ≤ 1000000) (w:World):(Instr.makeSlice 28 (.int .i64 (n:Int)) (.int .i64 (n:Int))).run Tryz.prog w=.ok (.slice (some ⟨w.heap.size,0,none⟩) n n) (w.alloc (.cells (rowOf (fun _=>.bool false) n).toArray 4)):=by
 rw [← rowOf_made (.bool false) n]
 exact run_make_row' _ _ _ 1 Tryz.underlying28 info_boo rfl _ _ n (by omega) (by omega) w
end Go.Proofs.YtenkkdnepmoihaaGreatDoor
end
section
set_option linter.unusedVariables false
set_option linter.unusedSimpArgs false
namespace Go.Proofs.YtenkkdnepmoihaaGreatDoor
def lastI (l:List It) (j k:Nat) (s:List UInt8):List UInt8:=l.foldl (fun s x=>if x.d=(j:Int)∧x.a=(k:Int) then x.b else s) s
theorem lastI_snoc (l:List It) (x:It) (j k:Nat) (s:List UInt8):lastI (l ++ [x]) j k s=if x.d=(j:Int)∧x.a=(k:Int) then x.b else lastI l j k s:=by
 unfold lastI;rw [List.foldl_append];rfl
theorem lastI_none:∀ {l:List It} {j k:Nat} {s:List UInt8},(∀ x ∈ l,¬ (x.d=(j:Int)∧x.a=(k:Int)))→lastI l j k s=s
 | [],_,_,_,_=>rfl
 | x::l,j,k,s,h=>by
   show lastI l j k (if x.d=(j:Int)∧x.a=(k:Int) then x.b else s)=s
   rw [if_neg (h x (List.mem_cons_self ..))]
   exact lastI_none fun y hy=>h y (List.mem_cons_of_mem _ hy)
theorem lastI_one:∀ {l:List It} {j k:Nat} {s v:List UInt8},(∀ x ∈ l,x.d=(j:Int)∧x.a=(k:Int)→x.b=v)→(s=v∨∃ x ∈ l,x.d=(j:Int)∧x.a=(k:Int))→lastI l j k s=v
 | [],_,_,_,_,_,h=>by
   rcases h with h | ⟨x,hx,_⟩
   ·exact h
   ·cases hx
 | x::l,j,k,s,v,ha,h=>by
   show lastI l j k (if x.d=(j:Int)∧x.a=(k:Int) then x.b else s)=v
   refine lastI_one (fun y hy=>ha y (List.mem_cons_of_mem _ hy)) ?_
   by_cases hx:x.d=(j:Int)∧x.a=(k:Int)
   ·rw [if_pos hx];exact .inl (ha x (List.mem_cons_self ..) hx)
   ·rw [if_neg hx]
    rcases h with h | ⟨y,hy,e⟩
    ·exact .inl h
    ·rcases List.mem_cons.1 hy with rfl | hy
     ·exact absurd e hx
     ·exact .inr ⟨y,hy,e⟩
structure GoodB (N:Bch):Prop where
 dn:N.down=false
 lf:N.left=-1
 ok:∀ j,j < N.n→(N.D j).Ok
 ps:∀ j,j < N.n→(N.D j).ps=[]
def FitI (n:Nat) (l:List It):Prop:=∀ x ∈ l,0 ≤ x.d∧x.d < (n:Int)∧0 ≤ x.a∧x.a < 52∧x.b.length=32
structure WtG (N M:Bch) (l:List It):Prop where
 n:M.n=N.n
 dn:M.down=false
 lf:M.left=-1
 f:∀ j,j < N.n→(M.D j).f=(N.D j).f
 ok:∀ j,j < N.n→(M.D j).Ok
 sec:∀ j,j < N.n→(N.D j).f=false→∀ k,k < 52→secAt (M.D j).now k=lastI l j k (secAt (N.D j).now k)
 ps:∀ j,j < N.n→(M.D j).ps ≠ []→∃ x ∈ l,x.d=(j:Int)
 done:M.done ≤ N.done + l.length
 bad:∀ j,j < N.n→(N.D j).f=true→M.D j=N.D j
theorem wrote_goodI {N:Bch} {l:List It} (hg:GoodB N) (hl:FitI N.n l):∀ i,i ≤ l.length→(runTo itWr l N i).1=0∧WtG N (runTo itWr l N i).2 (l.take i)
 | 0,_=>⟨rfl,rfl,hg.dn,hg.lf,fun _ _=>rfl,hg.ok,fun _ _ _ _ _=>by rw [List.take_zero];rfl,fun j hj h=>absurd (hg.ps j hj) h,Nat.le_add_right _ _,fun _ _ _=>rfl⟩
 | i + 1,hi=>by
   obtain ⟨h0,g⟩:=wrote_goodI hg hl i (by omega)
   have hx:=hl _ (itN_mem (l:=l) (k:=i) (by omega))
   have htk:=its_take (l:=l) (i:=i) (by omega)
   generalize hxx:itN l i=x at hx htk
   obtain ⟨d,hd⟩:∃ d:Nat,x.d=(d:Int):=⟨x.d.toNat,by omega⟩
   obtain ⟨k,hk⟩:∃ k:Nat,x.a=(k:Int):=⟨x.a.toNat,by omega⟩
   have hdn:d < N.n:=by omega
   have hk52:k < 52:=by omega
   have hpw:(runTo itWr l N i).2.powE (d:Int)=0:=Bch.powE_ok (Bch.pickE_ok (by omega) (by rw [g.n];omega)) g.dn
   have hlen:(l.take i).length=i:=by simp;omega
   rw [htk]
   cases hf:(N.D d).f with
   | true =>
     have hfm:((runTo itWr l N i).2.at_ (d:Int)).f=true:=(g.f d hdn).trans hf
     have ht:takeE ((runTo itWr l N i).2.at_ (d:Int)).f (k:Int) x.b.length=5:=by rw [hfm];exact takeE_fail _ _
     have e1:(itWr (runTo itWr l N i).2 x).1=5:=by
      show (runTo itWr l N i).2.writeE x.d x.a _=5
      rw [hd,hk]
      unfold Bch.writeE;rw [if_neg (by simp [hpw]),if_pos (by rw [ht];decide),ht]
     have e2:(itWr (runTo itWr l N i).2 x).2=(runTo itWr l N i).2:=by
      show (runTo itWr l N i).2.write x.d x.a _=_
      rw [hd,hk]
      unfold Bch.write;rw [if_neg (by simp [hpw]),if_pos (by rw [ht];decide)]
     rw [runTo_pass h0 (by rw [hxx];exact e1),hxx,e2]
     refine ⟨rfl,g.n,g.dn,g.lf,g.f,g.ok,fun j hj hfj kk hkk=>?_,fun j hj h=>?_,?_,g.bad⟩
     ·rw [lastI_snoc,if_neg (fun e=>by have:d=j:=by omega
                                       subst this;rw [hf] at hfj;cases hfj)]
      exact g.sec j hj hfj kk hkk
     ·obtain ⟨y,hy,e⟩:=g.ps j hj h
      exact ⟨y,List.mem_append.2 (.inl hy),e⟩
     ·have:=g.done;rw [List.length_append];show (runTo itWr l N i).2.done ≤ _;omega
   | false =>
     have hw:=Bch.write_ok (N:=(runTo itWr l N i).2) (d:=d) (k:=k) (x:=x.b) (by rw [g.n];omega) hk52 hx.2.2.2.2 ((g.f d hdn).trans hf) g.dn (by rw [g.lf];decide)
     rw [Bch.count_free (by exact g.lf)] at hw
     have e1:(itWr (runTo itWr l N i).2 x).1=0:=by
      show (runTo itWr l N i).2.writeE x.d x.a _=0
      rw [hd,hk];exact hw.1
     have e2:(itWr (runTo itWr l N i).2 x).2={ (runTo itWr l N i).2.set d (((runTo itWr l N i).2.D d).write k x.b) with done:=((runTo itWr l N i).2.set d (((runTo itWr l N i).2.D d).write k x.b)).done + 1 }:=by
      show (runTo itWr l N i).2.write x.d x.a _=_
      rw [hd,hk];exact hw.2
     rw [runTo_goes h0 (by rw [hxx,e1];decide),hxx]
     refine ⟨e1,?_⟩
     rw [e2]
     have hDj:∀ j,j ≠ d→upd (runTo itWr l N i).2.D d (((runTo itWr l N i).2.D d).write k x.b) j=(runTo itWr l N i).2.D j:=fun j hj=>upd_other _ _ hj
     have hDd:upd (runTo itWr l N i).2.D d (((runTo itWr l N i).2.D d).write k x.b) d=((runTo itWr l N i).2.D d).write k x.b:=upd_same _ _ _
     refine ⟨g.n,g.dn,g.lf,fun j hj=>?_,fun j hj=>?_,fun j hj hfj kk hkk=>?_,fun j hj h=>?_,?_,fun j hj hfj=>?_⟩
     ·show Dsk.f (upd _ d _ j)=_
      by_cases e:j=d
      ·subst e;rw [hDd];exact g.f j hj
      ·rw [hDj j e];exact g.f j hj
     ·show Dsk.Ok (upd _ d _ j)
      by_cases e:j=d
      ·subst e;rw [hDd];exact (g.ok j hj).write hk52 hx.2.2.2.2
      ·rw [hDj j e];exact g.ok j hj
     ·show secAt (Dsk.now (upd _ d _ j)) kk=_
      rw [lastI_snoc]
      by_cases e:j=d
      ·subst e
       rw [hDd,Dsk.write_now]
       by_cases e2:kk=k
       ·subst e2;rw [if_pos ⟨hd,hk⟩];exact sec_put_same (g.ok j hj).now hk52 hx.2.2.2.2
       ·rw [if_neg (fun q=>e2 (by omega)),sec_put_other (g.ok j hj).now hk52 hx.2.2.2.2 e2]
        exact g.sec j hj hfj kk hkk
      ·rw [hDj j e,if_neg (fun q=>e (by omega))]
       exact g.sec j hj hfj kk hkk
     ·by_cases e:j=d
      ·exact ⟨x,List.mem_append.2 (.inr (List.mem_singleton.2 rfl)),by rw [hd,e]⟩
      ·obtain ⟨y,hy,e'⟩:=g.ps j hj (by rw [← hDj j e];exact h)
       exact ⟨y,List.mem_append.2 (.inl hy),e'⟩
     ·have:=g.done;rw [List.length_append];show (runTo itWr l N i).2.done + 1 ≤ _;simp only [List.length_singleton];omega
     ·show upd (α:=Dsk) _ d _ j=_
      rw [hDj j (fun e=>by subst e;rw [hf] at hfj;cases hfj)];exact g.bad j hj hfj
structure FtG (M M2:Bch) (l:List It):Prop where
 n:M2.n=M.n
 dn:M2.down=false
 lf:M2.left=M.left
 f:∀ j,j < M.n→(M2.D j).f=(M.D j).f
 ok:∀ j,j < M.n→(M2.D j).Ok
 now:∀ j,j < M.n→(M2.D j).now=(M.D j).now
 ps:∀ j,j < M.n→(M.D j).f=false→(∃ x ∈ l,x.d=(j:Int))→(M2.D j).ps=[]
 ps2:∀ j,j < M.n→(M.D j).ps=[]→(M2.D j).ps=[]
 done:M2.done=M.done
 bad:∀ j,j < M.n→(M.D j).f=true→M2.D j=M.D j
theorem flush_goodI {M:Bch} {l:List It} (hdn:M.down=false) (hok:∀ j,j < M.n→(M.D j).Ok) (hl:FitI M.n l):∀ i,i ≤ l.length→(runTo itFl l M i).1=0∧FtG M (runTo itFl l M i).2 (l.take i)
 | 0,_=>⟨rfl,rfl,hdn,rfl,fun _ _=>rfl,hok,fun _ _=>rfl,fun j hj _ h=>(by obtain ⟨x,hx,_⟩:=h;rw [List.take_zero] at hx;cases hx),fun _ _ h=>h,rfl,fun _ _ _=>rfl⟩
 | i + 1,hi=>by
   obtain ⟨h0,g⟩:=flush_goodI hdn hok hl i (by omega)
   have hx:=hl _ (itN_mem (l:=l) (k:=i) (by omega))
   have htk:=its_take (l:=l) (i:=i) (by omega)
   generalize hxx:itN l i=x at hx htk
   obtain ⟨d,hd⟩:∃ d:Nat,x.d=(d:Int):=⟨x.d.toNat,by omega⟩
   have hdn':d < M.n:=by omega
   have hpw:(runTo itFl l M i).2.powE (d:Int)=0:=Bch.powE_ok (Bch.pickE_ok (by omega) (by rw [g.n];omega)) g.dn
   have e2:(itFl (runTo itFl l M i).2 x).2=(runTo itFl l M i).2.set d ((runTo itFl l M i).2.D d).flushE:=by
    show (runTo itFl l M i).2.flush x.d=_
    rw [hd]
    unfold Bch.flush;rw [if_neg (by simp [hpw])];rfl
   rw [htk]
   have hDj:∀ j,j ≠ d→upd (runTo itFl l M i).2.D d ((runTo itFl l M i).2.D d).flushE j=(runTo itFl l M i).2.D j:=fun j hj=>upd_other _ _ hj
   have hDd:upd (runTo itFl l M i).2.D d ((runTo itFl l M i).2.D d).flushE d=((runTo itFl l M i).2.D d).flushE:=upd_same _ _ _
   have hE:∀ D:Dsk,D.flushE.f=D.f∧D.flushE.now=D.now∧(D.Ok→D.flushE.Ok)∧(D.f=false→D.flushE.ps=[])∧(D.ps=[]→D.flushE.ps=[])∧(D.f=true→D.flushE=D):=fun D=>by
    unfold Dsk.flushE
    cases hfd:D.f with
    | true=>rw [if_pos rfl];exact ⟨hfd,rfl,id,(fun h=>by cases h),id,fun _=>rfl⟩
    | false=>rw [if_neg (by decide)];exact ⟨hfd,rfl,fun h=>h.flush,fun _=>rfl,fun _=>rfl,(fun h=>by cases h)⟩
   have hg:FtG M ((runTo itFl l M i).2.set d ((runTo itFl l M i).2.D d).flushE) (l.take i ++ [x]):=by
    refine ⟨g.n,g.dn,g.lf,fun j hj=>?_,fun j hj=>?_,fun j hj=>?_,fun j hj hf h=>?_,fun j hj h=>?_,g.done,fun j hj hf=>?_⟩
    ·show Dsk.f (upd _ d _ j)=_
     by_cases e:j=d
     ·subst e;rw [hDd,(hE _).1];exact g.f j hj
     ·rw [hDj j e];exact g.f j hj
    ·show Dsk.Ok (upd _ d _ j)
     by_cases e:j=d
     ·subst e;rw [hDd];exact (hE _).2.2.1 (g.ok j hj)
     ·rw [hDj j e];exact g.ok j hj
    ·show Dsk.now (upd _ d _ j)=_
     by_cases e:j=d
     ·subst e;rw [hDd,(hE _).2.1];exact g.now j hj
     ·rw [hDj j e];exact g.now j hj
    ·show Dsk.ps (upd _ d _ j)=_
     by_cases e:j=d
     ·subst e;rw [hDd];exact (hE _).2.2.2.1 ((g.f j hj).trans hf)
     ·rw [hDj j e]
      obtain ⟨y,hy,e'⟩:=h
      rcases List.mem_append.1 hy with hy | hy
      ·exact g.ps j hj hf ⟨y,hy,e'⟩
      ·rw [List.mem_singleton.1 hy,hd] at e';omega
    ·show Dsk.ps (upd _ d _ j)=_
     by_cases e:j=d
     ·subst e;rw [hDd];exact (hE _).2.2.2.2.1 (g.ps2 j hj h)
     ·rw [hDj j e];exact g.ps2 j hj h
    ·show upd (α:=Dsk) _ d _ j=_
     by_cases e:j=d
     ·subst e;rw [hDd,(hE _).2.2.2.2.2 ((g.f j hj).trans hf)];exact g.bad j hj hf
     ·rw [hDj j e];exact g.bad j hj hf
   cases hf:(M.D d).f with
   | true =>
     have e1:(itFl (runTo itFl l M i).2 x).1=5:=by
      show (runTo itFl l M i).2.flushE x.d=5
      rw [hd]
      unfold Bch.flushE;rw [if_neg (by simp [hpw]),if_pos]
      exact (g.f d hdn').trans hf
     rw [runTo_pass h0 (by rw [hxx];exact e1),hxx,e2]
     exact ⟨rfl,hg⟩
   | false =>
     have e1:(itFl (runTo itFl l M i).2 x).1=0:=by
      show (runTo itFl l M i).2.flushE x.d=0
      rw [hd]
      unfold Bch.flushE;rw [if_neg (by simp [hpw]),if_neg]
      show ¬ ((runTo itFl l M i).2.D d).f=true
      rw [g.f d hdn',hf];decide
     rw [runTo_goes h0 (by rw [hxx,e1];decide),hxx]
     exact ⟨e1,by rw [e2];exact hg⟩
structure StI (N M:Bch) (l:List It):Prop where
 n:M.n=N.n
 good:GoodB M
 f:∀ j,j < N.n→(M.D j).f=(N.D j).f
 sec:∀ j,j < N.n→(N.D j).f=false→∀ k,k < 52→secAt (M.D j).now k=lastI l j k (secAt (N.D j).now k)
 done:M.done ≤ N.done + l.length
 bad:∀ j,j < N.n→(N.D j).f=true→M.D j=N.D j
theorem settle_good {N:Bch} {l:List It} (hg:GoodB N) (hl:FitI N.n l):(settleS N l).1=0∧StI N (settleS N l).2 l:=by
 obtain ⟨h0,g⟩:=wrote_goodI hg hl l.length (Nat.le_refl _)
 rw [List.take_length] at g
 have h0':(wroteI N l).1=0:=h0
 have g':WtG N (wroteI N l).2 l:=g
 have e:settleS N l=runTo itFl l (wroteI N l).2 l.length:=if_neg (fun h=>h h0')
 obtain ⟨f0,f⟩:=flush_goodI (M:=(wroteI N l).2) (l:=l) g'.dn (fun j hj=>g'.ok j (by rw [g'.n] at hj;exact hj)) (by rw [g'.n];exact hl) l.length (Nat.le_refl _)
 rw [List.take_length] at f
 have hn:=g'.n
 rw [e]
 refine ⟨f0,f.n.trans hn,⟨f.dn,f.lf.trans g'.lf,fun j hj=>f.ok j (by rw [f.n] at hj;exact hj),fun j hj=>?_⟩,fun j hj=>(f.f j (by rw [hn];exact hj)).trans (g'.f j hj),fun j hj hf k hk=>?_,by rw [f.done];exact g'.done,fun j hj hf=>?_⟩
 ·have hj1:j < (wroteI N l).2.n:=by rw [f.n] at hj;exact hj
  have hj2:j < N.n:=by rw [← hn];exact hj1
  by_cases hp:((wroteI N l).2.D j).ps=[]
  ·exact f.ps2 j hj1 hp
  ·cases hf:((wroteI N l).2.D j).f with
   | false=>exact f.ps j hj1 hf (g'.ps j hj2 hp)
   | true=>exact absurd (by rw [g'.bad j hj2 (by rw [← g'.f j hj2];exact hf)];exact hg.ps j hj2) hp
 ·rw [f.now j (by rw [hn];exact hj)];exact g'.sec j hj hf k hk
 ·rw [f.bad j (by rw [hn];exact hj) (by rw [g'.f j hj];exact hf)];exact g'.bad j hj hf
end Go.Proofs.YtenkkdnepmoihaaGreatDoor
end
section
namespace Go.Proofs.YtenkkdnepmoihaaGreatDoor
open Go.RowKit
section
variable (W w:World) (b:Nat) (H:BH) (N:Bch) (h:BP W w b H N)
include h
theorem bp_down:Calls Tryz.prog 26 #[.pointer (some ⟨b,0,none⟩)] w fun e w'=>e=.returned (.bool N.down)∧w'=w:=bch_down_any _ _ _ _ _ h.at'
theorem bp_crash (ks:List Bool) (A:Option Addr) (n c:Nat) (hn:n=ks.length) (hc:ks.length ≤ c) (hk:RdO w w.heap.size A ks) (q:Nat) (hq:0 < ks.length→∀ a,A=some a→a.block=q) (hqn:¬ BF b H N.n q) (hps:∀ i,i < N.n→(N.D i).ps.length ≤ 2000000) :
    Calls Tryz.prog 27 #[.pointer (some ⟨b,0,none⟩),.slice A n c] w fun e w'=>e=.returned (.tuple #[])∧BC W w w' b H N.n (N.crash ks):=by
 refine (bch_crash_any _ _ _ _ _ h.at' ks A n c hn hc hk q hq hqn hps).mono ?_
 rintro e w' ⟨rfl,ht⟩
 exact ⟨rfl,h.to ht⟩
end
theorem keep_q {W w:World} {b:Nat} {H:BH} {N:Bch} (h:BP W w b H N) {A:Option Addr} {ks:List Bool} (hk:RdO W W.heap.size A ks):∃ q,(0 < ks.length→∀ a,A=some a→a.block=q)∧¬ BF b H N.n q:=by
 by_cases h0:0 < ks.length
 ·obtain ⟨lb,off,rfl,hlb,_⟩:=hk.2 h0
  exact ⟨lb,fun _ a e=>by injection e with e;rw [← e],fun hb=>by have:=(h.at'.flt hb).1;omega⟩
 ·exact ⟨w.heap.size,fun h=>absurd h h0,fun hb=>by have:=(h.at'.flt hb).2;omega⟩
theorem bp_crash_arg {W w:World} {b:Nat} {H:BH} {N:Bch} (h:BP W w b H N) (ks:List Bool) (A:Option Addr) (n c:Nat) (hn:n=ks.length) (hc:ks.length ≤ c) (hk:RdO W W.heap.size A ks) (hps:∀ i,i < N.n→(N.D i).ps.length ≤ 2000000) :
    Calls Tryz.prog 27 #[.pointer (some ⟨b,0,none⟩),.slice A n c] w fun e w'=>e=.returned (.tuple #[])∧BC W w w' b H N.n (N.crash ks):=by
 obtain ⟨q,hq,hqn⟩:=keep_q h hk
 exact bp_crash W w b H N h ks A n c hn hc ((hk.below h.bel (Nat.le_refl _)).more h.bel.size) q hq hqn hps
end Go.Proofs.YtenkkdnepmoihaaGreatDoor
end
