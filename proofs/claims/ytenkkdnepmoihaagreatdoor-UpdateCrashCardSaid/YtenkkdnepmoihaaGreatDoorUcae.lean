/- Texts put together: Ord, OrdSkip, SupMath, RecMath, OrdMore. -/
import Derived.Test.YtenkkdnepmoihaaGreatDoorUcaa
section
namespace Go.Proofs.YtenkkdnepmoihaaGreatDoor
open Go.RowKit
def hd (n:Nat) (ex:List Nat) (i:Nat):Bool:=decide (i < n) && !ex.contains i
section
variable {P:Program} {ops:Array Oper} {Q:Exit→Act→World→Prop} {md:Region.Mode} {S:World→Prop} {n:Nat} {ex:List Nat}
def anyH (P:Program) (md:Region.Mode) (ops:Array Oper) (Q:Exit→Act→World→Prop) (S:World→Prop) (n:Nat) (ex:List Nat):Nat→Array Bool→Act→World→Prop
 | 0,listed,a,w=>Region.ready md ops listed=[]∧Q .normal a w
 | f + 1,listed,a,w=>(Region.ready md ops listed=[]→Q .normal a w) ∧
   ∀ i ∈ Region.ready md ops listed,wpOp P ops Q i (fun a' w'=>(hd n ex i=true→S w')∧anyH P md ops Q S n ex f (listed.setIfInBounds i true) a' w') a w
theorem any_of_H:∀ (f:Nat) (listed:Array Bool) (a:Act) (w:World),anyH P md ops Q S n ex f listed a w→wpAny P md ops Q f listed a w
 | 0,_,_,_,h=>h
 | f + 1,_,_,_,h=>⟨h.1,fun i hi=>wpOp_mono (fun a' w' h'=>any_of_H f _ a' w' h'.2) (h.2 i hi)⟩
structure OInv (md:Region.Mode) (ops:Array Oper) (listed:Array Bool):Prop where
 size:listed.size=ops.size
 closed:∀ j oj,ops[j]?=some oj→listed.getD j false=true→∀ e ∈ oj.after,Region.binds md e=true→listed.getD e.on false=true
theorem OInv.set {i:Nat} {listed:Array Bool} (inv:OInv md ops listed) (hi:i ∈ Region.ready md ops listed):OInv md ops (listed.setIfInBounds i true):=by
 obtain ⟨_,oi,hoi,hall⟩:=mem_ready.1 hi
 refine ⟨by simp [inv.size],fun j oj hj hl e he hb=>?_⟩
 by_cases hij:i=j
 ·subst hij
  have:oj=oi:=Option.some.inj (hj.symm.trans hoi)
  subst this
  exact getD_set_true (hall e he hb)
 ·rw [getD_set_ne false hij] at hl
  exact getD_set_true (inv.closed j oj hj hl e he hb)
def behind (md:Region.Mode) (ops:Array Oper) (i:Nat):Nat→Nat→Bool
 | 0,_=>false
 | f + 1,j=>match ops[j]? with
   | some o=>o.after.any (fun e=>Region.binds md e && e.on == i) || o.after.any (fun e=>Region.binds md e && behind md ops i f e.on)
   | none=>false
theorem behind_done {i:Nat} {listed:Array Bool} (inv:OInv md ops listed) (hun:listed.getD i true=false):∀ (f j:Nat) (oj:Oper),ops[j]?=some oj→(∀ e ∈ oj.after,Region.binds md e=true→listed.getD e.on false=true)→behind md ops i f j=true→False
 | 0,_,_,_,_,h=>by cases h
 | f + 1,j,oj,hj,hall,h=>by
   unfold behind at h
   simp only [hj,Bool.or_eq_true] at h
   rcases h with h | h
   ·obtain ⟨e,he,hb⟩:=Array.any_eq_true'.1 h
    simp only [Bool.and_eq_true,beq_iff_eq] at hb
    have h2:=hall e he hb.1
    rw [hb.2,getD_both hun] at h2
    cases h2
   ·obtain ⟨e,he,hb⟩:=Array.any_eq_true'.1 h
    simp only [Bool.and_eq_true] at hb
    have h2:=hall e he hb.1
    rcases ho:ops[e.on]? with _ | oe
    ·have h3:=hb.2
     cases f with
     | zero=>cases h3
     | succ f=>unfold behind at h3;simp [ho] at h3
    ·exact behind_done inv hun f e.on oe ho (inv.closed e.on oe ho h2) hb.2
theorem anyH_first {i:Nat} {oi:Oper} {v:Value} (hi:ops[i]?=some oi) (hsel:∀ (j:Nat) (o:Oper) cs b,ops[j]?=some o→o.op ≠ .select cs b) (hQ:∀ c a w,Q (.panic c) (a.put oi.dst v) w→Q (.panic c) a w) {g:Nat} :
    ∀ (f:Nat) (listed:Array Bool) (a:Act) (w:World),OInv md ops listed→(∀ j,hd n ex j=false→listed.getD j true=false→behind md ops i g j=true) →
     (∀ j oj,ops[j]?=some oj→j ≠ i→listed.getD j true=false→(∀ e ∈ oj.after,Region.binds md e=true→e.on ≠ i)→oi.apart ops oj=true) →
     i ∈ Region.ready md ops listed→YieldsIf P ops S oi v a→S w →
     anyH P md ops Q S n ex f (listed.setIfInBounds i true) (a.put oi.dst v) w→anyH P md ops Q S n ex (f + 1) listed a w:=by
 intro f
 induction f with
 | zero =>
   intro listed a w _ _ _ hr hy hS H
   refine ⟨fun h=>(by rw [h] at hr;cases hr),fun j hj=>?_⟩
   by_cases hji:j=i
   ·subst hji;exact hy.wpOp hi hS ⟨fun _=>hS,H⟩
   ·have h1:=ready_mono (i:=i) hj hji
    rw [H.1] at h1
    cases h1
 | succ f ih =>
   intro listed a w inv hW hfree hr hy hS H
   have hun:=(mem_ready.1 hr).1
   refine ⟨fun h=>(by rw [h] at hr;cases hr),fun j hj=>?_⟩
   obtain ⟨hjun,oj,hoj,hall⟩:=mem_ready.1 hj
   have hjn:hd n ex j=true:=by
    cases hh:hd n ex j with
    | true=>rfl
    | false=>exact (behind_done inv hun g j oj hoj hall (hW j hh hjun)).elim
   by_cases hji:j=i
   ·subst hji;exact hy.wpOp hi hS ⟨fun _=>hS,H⟩
   ·have hnot:∀ e ∈ oj.after,Region.binds md e=true→e.on ≠ i:=fun e he hb heq=>by
      have h1:=hall e he hb
      rw [heq,getD_both hun] at h1
      cases h1
    have hap:=hfree j oj hoj hji hjun hnot
    have h2:=wpOp_putIf hoj hap (fun cs b=>hsel i oi cs b hi) (fun cs b=>hsel j oj cs b hoj) hQ hy (H.2 j (ready_mono hj hji))
    have hkeep:∀ k,(listed.setIfInBounds j true).getD k true=false→listed.getD k true=false:=fun k hku=>by
     by_cases hjk:j=k
     ·subst hjk;exact hjun
     ·rwa [getD_set_ne true hjk] at hku
    refine wpOp_mono (fun a' w' h3=>⟨h3.2.1,?_⟩) h2
    refine ih (listed.setIfInBounds j true) a' w' (inv.set hj) (fun k hk hku=>hW k hk (hkeep k hku)) (fun k ok hk hki hku hno=>hfree k ok hk hki (hkeep k hku) hno) (ready_mono hr (Ne.symm hji)) h3.1 (h3.2.1 hjn) ?_
    ·rw [Array.setIfInBounds_comm _ _ hji]
     exact h3.2.2
theorem anyH_free {i:Nat} {oi:Oper} {v:Value} (hi:ops[i]?=some oi) (hsel:∀ (j:Nat) (o:Oper) cs b,ops[j]?=some o→o.op ≠ .select cs b) (hQ:∀ c a w,Q (.panic c) (a.put oi.dst v) w→Q (.panic c) a w) (hh:hd n ex i=false) :
    ∀ (f:Nat) (listed:Array Bool) (a:Act) (w:World),
     (∀ j oj,ops[j]?=some oj→j ≠ i→listed.getD j true=false→(∀ e ∈ oj.after,Region.binds md e=true→e.on ≠ i)→oi.apart ops oj=true) →
     i ∈ Region.ready md ops listed→YieldsIf P ops (fun _=>True) oi v a →
     anyH P md ops Q S n ex f (listed.setIfInBounds i true) (a.put oi.dst v) w→anyH P md ops Q S n ex (f + 1) listed a w:=by
 intro f
 induction f with
 | zero =>
   intro listed a w _ hr hy H
   refine ⟨fun h=>(by rw [h] at hr;cases hr),fun j hj=>?_⟩
   by_cases hji:j=i
   ·subst hji;exact hy.wpOp hi trivial ⟨fun h=>(by rw [hh] at h;cases h),H⟩
   ·have h1:=ready_mono (i:=i) hj hji
    rw [H.1] at h1
    cases h1
 | succ f ih =>
   intro listed a w hfree hr hy H
   have hun:=(mem_ready.1 hr).1
   refine ⟨fun h=>(by rw [h] at hr;cases hr),fun j hj=>?_⟩
   obtain ⟨hjun,oj,hoj,hall⟩:=mem_ready.1 hj
   by_cases hji:j=i
   ·subst hji;exact hy.wpOp hi trivial ⟨fun h=>(by rw [hh] at h;cases h),H⟩
   ·have hnot:∀ e ∈ oj.after,Region.binds md e=true→e.on ≠ i:=fun e he hb heq=>by
      have h1:=hall e he hb
      rw [heq,getD_both hun] at h1
      cases h1
    have hap:=hfree j oj hoj hji hjun hnot
    have h2:=wpOp_putIf hoj hap (fun cs b=>hsel i oi cs b hi) (fun cs b=>hsel j oj cs b hoj) hQ hy (H.2 j (ready_mono hj hji))
    refine wpOp_mono (fun a' w' h3=>⟨h3.2.1,?_⟩) h2
    refine ih (listed.setIfInBounds j true) a' w' (fun k ok hk hki hku hno=>hfree k ok hk hki ?_ hno) (ready_mono hr (Ne.symm hji)) h3.1 ?_
    ·by_cases hjk:j=k
     ·subst hjk;exact hjun
     ·rwa [getD_set_ne true hjk] at hku
    ·rw [Array.setIfInBounds_comm _ _ hji]
     exact h3.2.2
structure Reg (ops:Array Oper) (Q:Exit→Act→World→Prop):Prop where
 sel:∀ (j:Nat) (o:Oper) cs b,ops[j]?=some o→o.op ≠ .select cs b
 panic:∀ c (a:Act) d v w,Q (.panic c) (a.put d v) w→Q (.panic c) a w
def anyI (P:Program) (ops:Array Oper) (Q:Exit→Act→World→Prop) (S:World→Prop) (n:Nat) (ex:List Nat) (f:Nat) (listed:Array Bool) (a:Act) (w:World):Prop:=OInv .any ops listed→anyH P .any ops Q S n ex f listed a w
theorem region_ord {id:Nat} {a:Act} {w:World} {l:List Oper} (n:Nat) (ex:List Nat) (S:World→Prop) (hm:P.follows .mixedOrders=true) (hB:Region.noSelect l.toArray=true)
    (hQ:∀ c (a:Act) d v w,Q (.panic c) (a.put d v) w→Q (.panic c) a w) (h:Reg l.toArray Q→anyI P l.toArray Q S n ex l.toArray.size (Array.replicate l.toArray.size false) a w.drew):(Code.region id l.toArray true).wp P Q a w :=
 wp_region_any hm (any_of_H _ _ _ _ (h ⟨Region.noSelect_spec hB,hQ⟩ ⟨by simp,fun j oj _ hl=>(by rw [getD_replicate_false] at hl;cases hl)⟩))
def waitB (ops:Array Oper) (n:Nat) (ex:List Nat) (listed:Array Bool) (i:Nat):Bool:=(List.range ops.size).all fun j=>hd n ex j || listed.getD j true || behind .any ops i ops.size j
theorem anyI_take (R:Reg ops Q) (i:Nat) {oi:Oper} {v:Value} {f:Nat} {listed:Array Bool} {a:Act} {w:World} (hi:ops[i]?=some oi) (hB:((Region.ready .any ops listed).contains i && Region.free .any ops listed i && waitB ops n ex listed i)=true)
    (hw:Region.wanted oi (yielded ops a.tmps)=true) (hv:∀ w,S w→(execOp a.eval oi).run P w=.ok (.value v) w) (hS:S w) (h:anyI P ops Q S n ex f (listed.setIfInBounds i true) (a.put oi.dst v) w):anyI P ops Q S n ex (f + 1) listed a w:=fun inv=>by
 simp only [Bool.and_eq_true] at hB
 obtain ⟨⟨hr,hf⟩,hW⟩:=hB
 have hr':i ∈ Region.ready .any ops listed:=by simpa using hr
 refine anyH_first (g:=ops.size) hi R.sel (fun c a w h=>R.panic c a _ _ w h) f listed a w inv (fun j hj hun=>?_) (Region.free_spec hi hf) hr' (.inl ⟨hw,hv⟩) hS (h (inv.set hr'))
 rcases Nat.lt_or_ge j ops.size with hlt | hge
 ·have h1:=List.all_eq_true.1 hW j (List.mem_range.2 hlt)
  simpa [hj,hun] using h1
 ·rw [← inv.size] at hge
  simp [Array.getElem?_eq_none hge] at hun
theorem anyI_free (R:Reg ops Q) (i:Nat) {oi:Oper} {v:Value} {f:Nat} {listed:Array Bool} {a:Act} {w:World} (hi:ops[i]?=some oi) (hB:((Region.ready .any ops listed).contains i && Region.free .any ops listed i && !hd n ex i)=true)
    (hw:Region.wanted oi (yielded ops a.tmps)=true) (hv:∀ w,(execOp a.eval oi).run P w=.ok (.value v) w) (h:anyI P ops Q S n ex f (listed.setIfInBounds i true) (a.put oi.dst v) w):anyI P ops Q S n ex (f + 1) listed a w:=fun inv=>by
 simp only [Bool.and_eq_true,Bool.not_eq_true'] at hB
 obtain ⟨⟨hr,hf⟩,hn⟩:=hB
 have hr':i ∈ Region.ready .any ops listed:=by simpa using hr
 exact anyH_free hi R.sel (fun c a w h=>R.panic c a _ _ w h) hn f listed a w (Region.free_spec hi hf) hr' (.inl ⟨hw,fun w _=>hv w⟩) (h (inv.set hr'))
theorem anyI_two (i j:Nat) {oi oj:Oper} {f:Nat} {listed:Array Bool} {a:Act} {w:World} (hrs:Region.ready .any ops listed=[i,j]) (hi:ops[i]?=some oi) (hj:ops[j]?=some oj)
    (h1:opE P ops Q oi (fun a' w'=>S w'∧anyI P ops Q S n ex f (listed.setIfInBounds i true) a' w') a w) (h2:opE P ops Q oj (fun a' w'=>S w'∧anyI P ops Q S n ex f (listed.setIfInBounds j true) a' w') a w):anyI P ops Q S n ex (f + 1) listed a w:=fun inv=>by
 refine ⟨fun h=>(by rw [hrs] at h;cases h),fun t ht=>?_⟩
 have ht':=ht
 rw [hrs] at ht
 rcases List.mem_cons.1 ht with rfl | ht
 ·exact wpOp_mono (fun a' w' h=>⟨fun _=>h.1,h.2 (inv.set ht')⟩) (wpOp_of_opE hi h1)
 ·obtain rfl:=List.mem_singleton.1 ht
  exact wpOp_mono (fun a' w' h=>⟨fun _=>h.1,h.2 (inv.set ht')⟩) (wpOp_of_opE hj h2)
theorem anyI_one (i:Nat) {oi:Oper} {f:Nat} {listed:Array Bool} {a:Act} {w:World} (hrs:Region.ready .any ops listed=[i]) (hi:ops[i]?=some oi)
    (h1:opE P ops Q oi (fun a' w'=>S w'∧anyI P ops Q S n ex f (listed.setIfInBounds i true) a' w') a w):anyI P ops Q S n ex (f + 1) listed a w:=fun inv=>by
 refine ⟨fun h=>(by rw [hrs] at h;cases h),fun t ht=>?_⟩
 have ht':=ht
 rw [hrs] at ht
 obtain rfl:=List.mem_singleton.1 ht
 exact wpOp_mono (fun a' w' h=>⟨fun _=>h.1,h.2 (inv.set ht')⟩) (wpOp_of_opE hi h1)
theorem anyH_of_seq:∀ (l:List Oper) (k:Nat) (listed:Array Bool) (a:Act) (w:World),n ≤ k→(∀ j,l[j]?=ops[k + j]?)→Region.seqB .any ops l.length k listed=true→wpList P ops Q l a w→anyH P .any ops Q S n ex l.length listed a w
 | [],k,listed,a,w,_,_,hB,h=>⟨by simpa [Region.seqB] using hB,h⟩
 | o::l,k,listed,a,w,hk,hl,hB,h=>by
   have h0:ops[k]?=some o:=by simpa using (hl 0).symm
   simp only [List.length_cons,Region.seqB,Bool.and_eq_true,decide_eq_true_eq] at hB
   refine ⟨fun h1=>(by rw [hB.1] at h1;cases h1),fun i hi=>?_⟩
   rw [hB.1] at hi
   have hik:i=k:=by simpa using hi
   subst hik
   have hw:wpOp P ops Q i (wpList P ops Q l) a w:=by unfold wpOp;simp only [h0];exact h
   exact wpOp_mono (fun a' w' h'=>⟨fun h=>(by simp [hd] at h;omega),anyH_of_seq l (i + 1) _ a' w' (by omega) (fun j=>by have:=hl (j + 1);simpa [Nat.add_assoc,Nat.add_comm 1 j] using this) hB.2 h'⟩) hw
theorem anyI_tail {l:List Oper} {f:Nat} {listed:Array Bool} {a:Act} {w:World} (hB:(decide (f=l.length - n) && Region.seqB .any l.toArray (l.length - n) n listed)=true) (h:wpList P l.toArray Q (l.drop n) a w):anyI P l.toArray Q S n ex f listed a w:=fun _=>by
 simp only [Bool.and_eq_true,decide_eq_true_eq] at hB
 obtain ⟨rfl,hB⟩:=hB
 have hdl:(l.drop n).length=l.length - n:=by simp
 have:=anyH_of_seq (P:=P) (Q:=Q) (S:=S) (n:=n) (ex:=ex) (l.drop n) n listed a w (Nat.le_refl _) (fun j=>by simp [List.getElem?_drop]) (by rw [hdl];exact hB) h
 rwa [hdl] at this
theorem opE_step {o:Oper} {K:Act→World→Prop} {a:Act} {w:World} (h:if Region.wanted o (yielded ops a.tmps)=true then o.wp P a w K Q else K (a.put o.dst undef) w):opE P ops Q o K a w:=by
 unfold opE
 split at h
 ·rename_i hw;rw [if_pos hw];exact .inl h
 ·rename_i hw;rw [if_neg hw];exact h
end
end Go.Proofs.YtenkkdnepmoihaaGreatDoor
end
section
namespace Go.Proofs.YtenkkdnepmoihaaGreatDoor
open Go.RowKit
section
variable {P:Program} {ops:Array Oper} {Q:Exit→Act→World→Prop} {S:World→Prop} {n:Nat} {ex:List Nat}
theorem anyI_skip (R:Reg ops Q) (i:Nat) {oi:Oper} {f:Nat} {listed:Array Bool} {a:Act} {w:World} (hi:ops[i]?=some oi) (hB:((Region.ready .any ops listed).contains i && Region.free .any ops listed i && waitB ops n ex listed i)=true)
    (hw:Region.wanted oi (yielded ops a.tmps)=false) (hS:S w) (h:anyI P ops Q S n ex f (listed.setIfInBounds i true) (a.put oi.dst undef) w):anyI P ops Q S n ex (f + 1) listed a w:=fun inv=>by
 simp only [Bool.and_eq_true] at hB
 obtain ⟨⟨hr,hf⟩,hW⟩:=hB
 have hr':i ∈ Region.ready .any ops listed:=by simpa using hr
 refine anyH_first (g:=ops.size) hi R.sel (fun c a w h=>R.panic c a _ _ w h) f listed a w inv (fun j hj hun=>?_) (Region.free_spec hi hf) hr' (.inr ⟨hw,rfl⟩) hS (h (inv.set hr'))
 rcases Nat.lt_or_ge j ops.size with hlt | hge
 ·have h1:=List.all_eq_true.1 hW j (List.mem_range.2 hlt)
  simpa [hj,hun] using h1
 ·rw [← inv.size] at hge
  simp [Array.getElem?_eq_none hge] at hun
end
end Go.Proofs.YtenkkdnepmoihaaGreatDoor
end
section
namespace Go.Proofs.YtenkkdnepmoihaaGreatDoor
def byN (n:Int) (k:Nat):UInt8:=UInt8.ofNat (n.toNat / 256 ^ k)
def numB (bs:List UInt8):Nat:=bs.foldl (fun n x=>n * 256 + x.toNat) 0
theorem numB_four (a b c d:UInt8):numB [a,b,c,d]=((a.toNat * 256 + b.toNat) * 256 + c.toNat) * 256 + d.toNat:=by simp [numB]
theorem byN_four {n:Int} (h:1 ≤ n∧n ≤ 2147483647):((numB [byN n 3,byN n 2,byN n 1,byN n 0]:Nat):Int)=n:=by
 rw [numB_four];simp only [byN,UInt8.toNat_ofNat'];omega
end Go.Proofs.YtenkkdnepmoihaaGreatDoor
end
section
namespace Go.Proofs.YtenkkdnepmoihaaGreatDoor
structure It where
 d:Int
 a:Int
 b:List UInt8
def itZ:It:=⟨0,0,[]⟩
structure It64 (x:It):Prop where
 d:(-9223372036854775808 ≤ x.d∧x.d ≤ 9223372036854775807)
 a:(-9223372036854775808 ≤ x.a∧x.a ≤ 9223372036854775807)
theorem It.ext' {x y:It} (h1:x.d=y.d) (h2:x.a=y.a) (h3:x.b=y.b):x=y:=by
 obtain ⟨a1,a2,a3⟩:=x
 obtain ⟨b1,b2,b3⟩:=y
 dsimp only at h1 h2 h3
 subst h1 h2 h3
 rfl
def mayB (x:It):Bool:=decide (0 ≤ x.d∧x.d < 8∧36 ≤ x.a∧x.a < 52∧x.b.length=32)
def meetsB (x y:It):Bool:=decide (x.d=y.d∧x.a=y.a)
theorem mayB_iff (x:It):mayB x=true ↔ (0 ≤ x.d∧x.d < 8∧36 ≤ x.a∧x.a < 52∧x.b.length=32):=by simp [mayB]
theorem meetsB_iff (x y:It):meetsB x y=true ↔ (x.d=y.d∧x.a=y.a):=by simp [meetsB]
def itN (l:List It) (k:Nat):It:=l.getD k itZ
def fineN (l:List It) (n:Nat):Bool:=decide (∀ k,k < n→mayB (itN l k)=true∧∀ j,j < k→meetsB (itN l k) (itN l j)=false)
theorem fineN_iff (l:List It) (n:Nat):fineN l n=true ↔ ∀ k,k < n→mayB (itN l k)=true∧∀ j,j < k→meetsB (itN l k) (itN l j)=false:=by simp [fineN]
def recOk (s:Int) (l:List It):Bool:=decide (1 ≤ s∧s ≤ 2147483647∧l.length ≤ 3) && fineN l l.length
theorem recOk_iff (s:Int) (l:List It):recOk s l=true ↔ (1 ≤ s∧s ≤ 2147483647∧l.length ≤ 3)∧fineN l l.length=true:=by simp [recOk]
def recErr (s:Int) (l:List It):Int:=if recOk s l=true then 0 else 1
theorem recErr_yes {s:Int} {l:List It} (h:recOk s l=true):recErr s l=0:=if_pos h
theorem recErr_no {s:Int} {l:List It} (h:recOk s l=false):recErr s l=1:=if_neg (by rw [h];decide)
theorem recOk_no {s:Int} {l:List It} (h:¬ (1 ≤ s∧s ≤ 2147483647∧l.length ≤ 3)):recOk s l=false:=by
 rw [← Bool.not_eq_true];exact fun h'=>h ((recOk_iff s l).1 h').1
theorem recOk_at {s:Int} {l:List It} (k:Nat) (hk:k < l.length) (h:mayB (itN l k)=false):recOk s l=false:=by
 rw [← Bool.not_eq_true];intro h'
 have:=((fineN_iff _ _).1 ((recOk_iff s l).1 h').2 k hk).1
 rw [h] at this;cases this
theorem recOk_two {s:Int} {l:List It} (k j:Nat) (hk:k < l.length) (hj:j < k) (h:meetsB (itN l k) (itN l j)=true):recOk s l=false:=by
 rw [← Bool.not_eq_true];intro h'
 have:=((fineN_iff _ _).1 ((recOk_iff s l).1 h').2 k hk).2 j hj
 rw [h] at this;cases this
theorem itN_mem {l:List It} {k:Nat} (hk:k < l.length):itN l k ∈ l:=by
 unfold itN
 rw [List.getD_eq_getElem?_getD,List.getElem?_eq_getElem hk]
 exact List.getElem_mem hk
theorem recOk_may {s:Int} {l:List It} (h:recOk s l=true) (x:It) (hx:x ∈ l):0 ≤ x.d∧x.d < 8∧36 ≤ x.a∧x.a < 52∧x.b.length=32:=by
 obtain ⟨k,hk,rfl⟩:=List.getElem_of_mem hx
 have:=((fineN_iff _ _).1 ((recOk_iff s l).1 h).2 k hk).1
 rw [show itN l k=l[k] from by simp [itN,List.getD_eq_getElem?_getD,hk]] at this
 exact (mayB_iff _).1 this
theorem byX_one {n:Int} (h:0 ≤ n∧n ≤ 255):(((byN n 0).toNat:Nat):Int)=n:=by
 simp only [byN,UInt8.toNat_ofNat'];omega
def plcB (l:List It):List UInt8:=l.flatMap fun x=>[byN x.d 0,byN x.a 0]
theorem plcB_len (l:List It):(plcB l).length=2 * l.length:=by
 induction l with
 | nil=>rfl
 | cons x l ih=>show (plcB l).length + 2=_;rw [ih,List.length_cons];omega
theorem plcB_snoc (l:List It) (x:It):plcB (l ++ [x])=plcB l ++ [byN x.d 0,byN x.a 0]:=by simp [plcB]
def hdB (s:Int) (l:List It):List UInt8:=[87,82,69,67,byN s 3,byN s 2,byN s 1,byN s 0,UInt8.ofNat l.length] ++ plcB l
theorem hdB_len (s:Int) (l:List It):(hdB s l).length=9 + 2 * l.length:=by
 show (plcB l).length + 9=_;rw [plcB_len];omega
def z32:List UInt8:=List.replicate 32 0
def fullB (s:Int) (l:List It):List UInt8:=hdB s l ++ List.replicate (32 - (hdB s l).length) 0
theorem fullB_len {s:Int} {l:List It} (h:l.length ≤ 3):(fullB s l).length=32:=by
 simp only [fullB,List.length_append,hdB_len,List.length_replicate];omega
def partsB (l:List It):List (List UInt8):=l.map (·.b) ++ List.replicate (3 - l.length) z32
theorem partsB_len {l:List It} (h:l.length ≤ 3):(partsB l).length=3:=by simp [partsB];omega
def recB (s:Int) (l:List It):List (List UInt8):=stamped (fullB s l) (partsB l)::partsB l
theorem recB_len {s:Int} {l:List It} (h:l.length ≤ 3):(recB s l).length=4:=by
 show (partsB l).length + 1=4;rw [partsB_len h]
def sqO (rs:List (List UInt8)):Int:=numB [(rs.getD 0 []).getD 4 0,(rs.getD 0 []).getD 5 0,(rs.getD 0 []).getD 6 0,(rs.getD 0 []).getD 7 0]
def cnO (rs:List (List UInt8)):Nat:=((rs.getD 0 []).getD 8 0).toNat
def itO (rs:List (List UInt8)) (i:Nat):It:=⟨((rs.getD 0 []).getD (9 + 2 * i) 0).toNat,((rs.getD 0 []).getD (10 + 2 * i) 0).toNat,rs.getD (1 + i) []⟩
def itsN (rs:List (List UInt8)) (n:Nat):List It:=(List.range n).map (itO rs)
def itsO (rs:List (List UInt8)):List It:=itsN rs (min (cnO rs) 3)
theorem itsN_len (rs:List (List UInt8)) (n:Nat):(itsN rs n).length=n:=by simp [itsN]
theorem itsN_succ (rs:List (List UInt8)) (n:Nat):itsN rs (n + 1)=itsN rs n ++ [itO rs n]:=by simp [itsN,List.range_succ]
theorem itsN_at (rs:List (List UInt8)) (n k:Nat) (hk:k < n):itN (itsN rs n) k=itO rs k:=by
 simp [itN,itsN,List.getD_eq_getElem?_getD,hk]
def sect (rs:List (List UInt8)):Bool:=decide (rs.length=4) && rs.all fun x=>decide (x.length=32)
theorem sect_iff (rs:List (List UInt8)):sect rs=true ↔ rs.length=4∧∀ x ∈ rs,x.length=32:=by simp [sect]
theorem sect_get {rs:List (List UInt8)} (h:sect rs=true) (k:Nat) (hk:k < 4):(rs.getD k []).length=32:=by
 obtain ⟨h1,h2⟩:=(sect_iff rs).1 h
 rw [List.getD_eq_getElem?_getD,List.getElem?_eq_getElem (by omega)]
 exact h2 _ (List.getElem_mem _)
def rcO (rs:List (List UInt8)):Bool:=sect rs && recOk (sqO rs) (itsO rs) && decide (recB (sqO rs) (itsO rs)=rs)
theorem rcO_iff (rs:List (List UInt8)):rcO rs=true ↔ sect rs=true∧recOk (sqO rs) (itsO rs)=true∧recB (sqO rs) (itsO rs)=rs:=by simp [rcO,and_assoc]
theorem rcO_not {rs:List (List UInt8)} (h:¬ (sect rs=true∧recOk (sqO rs) (itsO rs)=true∧recB (sqO rs) (itsO rs)=rs)):rcO rs=false:=by
 rw [← Bool.not_eq_true];exact fun h'=>h ((rcO_iff rs).1 h')
def rcS (rs:List (List UInt8)):Int:=if rcO rs=true then sqO rs else 0
def rcL (rs:List (List UInt8)):List It:=if rcO rs=true then itsO rs else []
def rcE (rs:List (List UInt8)):Int:=if rcO rs=true then 0 else 2
theorem partsB_get {l:List It} (k:Nat) (hk:k < l.length):(partsB l).getD k []=(itN l k).b:=by
 simp [partsB,itN,List.getD_eq_getElem?_getD,hk,List.getElem?_append_left]
theorem recB_get0 (s:Int) (l:List It):(recB s l).getD 0 []=stamped (fullB s l) (partsB l):=rfl
theorem recB_getS (s:Int) (l:List It) (k:Nat):(recB s l).getD (1 + k) []=(partsB l).getD k []:=by
 rw [Nat.add_comm];simp [recB,List.getD_eq_getElem?_getD]
theorem stamped_get {bs:List UInt8} {rs:List (List UInt8)} (hl:bs.length=32) (k:Nat) (hk:k < 28):(stamped bs rs).getD k 0=bs.getD k 0:=by
 unfold stamped
 rw [List.getD_eq_getElem?_getD,List.getElem?_append_left (by simp;omega),List.getElem?_take,if_pos hk,List.getD_eq_getElem?_getD]
theorem fullB_get {s:Int} {l:List It} (k:Nat) (hk:k < 9 + 2 * l.length):(fullB s l).getD k 0=(hdB s l).getD k 0:=by
 unfold fullB
 rw [List.getD_eq_getElem?_getD,List.getElem?_append_left (by rw [hdB_len];exact hk),List.getD_eq_getElem?_getD]
theorem plcB_get (l:List It) (k:Nat) (hk:k < l.length):(plcB l).getD (2 * k) 0=byN (itN l k).d 0∧(plcB l).getD (2 * k + 1) 0=byN (itN l k).a 0:=by
 induction l generalizing k with
 | nil=>simp at hk
 | cons x l ih =>
   match k with
   | 0=>exact ⟨rfl,rfl⟩
   | k + 1 =>
     have:=ih k (by simp at hk;omega)
     refine ⟨?_,?_⟩
     ·exact this.1
     ·exact this.2
theorem hdB_get9 (s:Int) (l:List It) (j:Nat):(hdB s l).getD (9 + j) 0=(plcB l).getD j 0:=by
 unfold hdB
 rw [List.getD_eq_getElem?_getD,List.getElem?_append_right (by simp),List.getD_eq_getElem?_getD]
 congr 2
 simp
theorem recB_by {s:Int} {l:List It} (h:l.length ≤ 3) (k:Nat) (hk:k < 9 + 2 * l.length):((recB s l).getD 0 []).getD k 0=(hdB s l).getD k 0:=by
 rw [recB_get0,stamped_get (fullB_len h) k (by omega),fullB_get k hk]
theorem sqO_recB {s:Int} {l:List It} (h:recOk s l=true):sqO (recB s l)=s:=by
 obtain ⟨⟨h1,h2,h3⟩,_⟩:=(recOk_iff s l).1 h
 unfold sqO
 rw [recB_by h3 4 (by omega),recB_by h3 5 (by omega),recB_by h3 6 (by omega),recB_by h3 7 (by omega)]
 exact byN_four ⟨h1,h2⟩
theorem cnO_recB {s:Int} {l:List It} (h:l.length ≤ 3):cnO (recB s l)=l.length:=by
 unfold cnO
 rw [recB_by h 8 (by omega)]
 show (UInt8.ofNat l.length).toNat=_
 rw [UInt8.toNat_ofNat'];omega
theorem itO_recB {s:Int} {l:List It} (h:recOk s l=true) (k:Nat) (hk:k < l.length):itO (recB s l) k=itN l k:=by
 obtain ⟨⟨h1,h2,h3⟩,_⟩:=(recOk_iff s l).1 h
 have hm:=recOk_may h _ (itN_mem hk)
 have e1:((recB s l).getD 0 []).getD (9 + 2 * k) 0=byN (itN l k).d 0:=by
  rw [recB_by h3 _ (by omega),hdB_get9,(plcB_get l k hk).1]
 have e2:((recB s l).getD 0 []).getD (10 + 2 * k) 0=byN (itN l k).a 0:=by
  rw [recB_by h3 _ (by omega),show 10 + 2 * k=9 + (2 * k + 1) by omega,hdB_get9,(plcB_get l k hk).2]
 have e3:(recB s l).getD (1 + k) []=(itN l k).b:=by rw [recB_getS,partsB_get k hk]
 apply It.ext'
 ·show ((((recB s l).getD 0 []).getD (9 + 2 * k) 0).toNat:Int)=_
  rw [e1];exact byX_one (by omega)
 ·show ((((recB s l).getD 0 []).getD (10 + 2 * k) 0).toNat:Int)=_
  rw [e2];exact byX_one (by omega)
 ·exact e3
theorem itsO_recB {s:Int} {l:List It} (h:recOk s l=true):itsO (recB s l)=l:=by
 obtain ⟨⟨h1,h2,h3⟩,_⟩:=(recOk_iff s l).1 h
 have e:itsO (recB s l)=itsN (recB s l) l.length:=by unfold itsO;rw [cnO_recB h3,Nat.min_eq_left h3]
 rw [e]
 apply List.ext_getElem (itsN_len _ _)
 intro k h1' h2'
 have:=itO_recB h k h2'
 simp only [itsN,List.getElem_map,List.getElem_range]
 rw [this]
 simp [itN,List.getD_eq_getElem?_getD,h2']
theorem sect_recB {s:Int} {l:List It} (h:recOk s l=true):sect (recB s l)=true:=by
 obtain ⟨⟨h1,h2,h3⟩,_⟩:=(recOk_iff s l).1 h
 refine (sect_iff _).2 ⟨recB_len h3,fun x hx=>?_⟩
 rcases List.mem_cons.1 hx with rfl | hx
 ·exact stamped_len _ _ (fullB_len h3)
 ·rcases List.mem_append.1 hx with hx | hx
  ·obtain ⟨y,hy,rfl⟩:=List.mem_map.1 hx
   exact (recOk_may h y hy).2.2.2.2
  ·rw [(List.mem_replicate.1 hx).2];rfl
theorem rcO_recB {s:Int} {l:List It} (h:recOk s l=true):rcO (recB s l)=true:=by
 refine (rcO_iff _).2 ⟨sect_recB h,?_,?_⟩
 ·rw [sqO_recB h,itsO_recB h];exact h
 ·rw [sqO_recB h,itsO_recB h]
theorem rcS_recB {s:Int} {l:List It} (h:recOk s l=true):rcS (recB s l)=s:=(if_pos (rcO_recB h)).trans (sqO_recB h)
theorem rcL_recB {s:Int} {l:List It} (h:recOk s l=true):rcL (recB s l)=l:=(if_pos (rcO_recB h)).trans (itsO_recB h)
end Go.Proofs.YtenkkdnepmoihaaGreatDoor
end
section
namespace Go.Proofs.YtenkkdnepmoihaaGreatDoor
open Go.RowKit
section
variable {P:Program} {ops:Array Oper} {Q:Exit→Act→World→Prop} {S:World→Prop} {n:Nat} {ex:List Nat}
theorem anyI_all (rs:List Nat) {f:Nat} {listed:Array Bool} {a:Act} {w:World} (hrs:Region.ready .any ops listed=rs) (h0:rs ≠ [])
    (h:∀ t ∈ rs,∃ ot,ops[t]?=some ot∧opE P ops Q ot (fun a' w'=>S w'∧anyI P ops Q S n ex f (listed.setIfInBounds t true) a' w') a w):anyI P ops Q S n ex (f + 1) listed a w:=fun inv=>by
 refine ⟨fun h=>(by rw [hrs] at h;exact absurd h h0),fun t ht=>?_⟩
 have ht':=ht
 rw [hrs] at ht
 obtain ⟨ot,h1,h2⟩:=h t ht
 exact wpOp_mono (fun a' w' h=>⟨fun _=>h.1,h.2 (inv.set ht')⟩) (wpOp_of_opE h1 h2)
theorem anyI_three (i j k:Nat) {oi oj ok:Oper} {f:Nat} {listed:Array Bool} {a:Act} {w:World} (hrs:Region.ready .any ops listed=[i,j,k]) (hi:ops[i]?=some oi) (hj:ops[j]?=some oj) (hk:ops[k]?=some ok)
    (h1:opE P ops Q oi (fun a' w'=>S w'∧anyI P ops Q S n ex f (listed.setIfInBounds i true) a' w') a w) (h2:opE P ops Q oj (fun a' w'=>S w'∧anyI P ops Q S n ex f (listed.setIfInBounds j true) a' w') a w) (h3:opE P ops Q ok (fun a' w'=>S w'∧anyI P ops Q S n ex f (listed.setIfInBounds k true) a' w') a w):anyI P ops Q S n ex (f + 1) listed a w :=
 anyI_all [i,j,k] hrs (by simp) fun t ht=>by
  simp only [List.mem_cons,List.not_mem_nil,or_false] at ht
  rcases ht with rfl | rfl | rfl
  ·exact ⟨_,hi,h1⟩
  ·exact ⟨_,hj,h2⟩
  ·exact ⟨_,hk,h3⟩
end
end Go.Proofs.YtenkkdnepmoihaaGreatDoor
end
