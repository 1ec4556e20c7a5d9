/- Texts put together: Ord, OrdSkip, GeoCan. -/
import Derived.Test.YtldfoadildaljaaGreatWmaa
section
namespace Go.Proofs.YtldfoadildaljaaGreat
open Go.RowKit
def hd (n:Nat) (ex:List Nat) (i:Nat):Bool:=decide (i < n) && !ex.contains i
section
variable {P:Program} {ops:Array Oper} {Q:Exit→Act→World→Prop} {md:Region.Mode} {S:World→Prop} {n:Nat} {ex:List Nat}
def anyH (P:Program) (md:Region.Mode) (ops:Array Oper) (Q:Exit→Act→World→Prop) (S:World→Prop) (n:Nat) (ex:List Nat):Nat→Array Bool→Act→World→Prop
 | 0,listed,a,w=>Region.ready md ops listed=[]∧Q .normal a w
 | f + 1,listed,a,w=>(Region.ready md ops listed=[]→Q .normal a w) ∧
   ∀ i ∈ Region.ready md ops listed,wpOp P ops Q i (fun a' w'=>(hd n ex i=true→S w')∧anyH P md ops Q S n ex f (listed.setIfInBounds i true) a' w') a w
theorem any_of_H:∀ (f:Nat) (listed:Array Bool) (a:Act) (w:World),anyH P md ops Q S n ex f listed a w→wpAny P md ops Q f listed a w
 | 0,_,_,_,h=>h
 | f + 1,_,_,_,h=>⟨h.1,fun i hi=>wpOp_mono (fun a' w' h'=>any_of_H f _ a' w' h'.2) (h.2 i hi)⟩
structure OInv (md:Region.Mode) (ops:Array Oper) (listed:Array Bool):Prop where
 size:listed.size=ops.size
 closed:∀ j oj,ops[j]?=some oj→listed.getD j false=true→∀ e ∈ oj.after,Region.binds md e=true→listed.getD e.on false=true
theorem OInv.set {i:Nat} {listed:Array Bool} (inv:OInv md ops listed) (hi:i ∈ Region.ready md ops listed):OInv md ops (listed.setIfInBounds i true):=by
 obtain ⟨_,oi,hoi,hall⟩:=mem_ready.1 hi
 refine ⟨by simp [inv.size],fun j oj hj hl e he hb=>?_⟩
 by_cases hij:i=j
 ·subst hij
  have:oj=oi:=Option.some.inj (hj.symm.trans hoi)
  subst this
  exact getD_set_true (hall e he hb)
 ·rw [getD_set_ne false hij] at hl
  exact getD_set_true (inv.closed j oj hj hl e he hb)
def behind (md:Region.Mode) (ops:Array Oper) (i:Nat):Nat→Nat→Bool
 | 0,_=>false
 | f + 1,j=>match ops[j]? with
   | some o=>o.after.any (fun e=>Region.binds md e && e.on == i) || o.after.any (fun e=>Region.binds md e && behind md ops i f e.on)
   | none=>false
theorem behind_done {i:Nat} {listed:Array Bool} (inv:OInv md ops listed) (hun:listed.getD i true=false):∀ (f j:Nat) (oj:Oper),ops[j]?=some oj→(∀ e ∈ oj.after,Region.binds md e=true→listed.getD e.on false=true)→behind md ops i f j=true→False
 | 0,_,_,_,_,h=>by cases h
 | f + 1,j,oj,hj,hall,h=>by
   unfold behind at h
   simp only [hj,Bool.or_eq_true] at h
   rcases h with h | h
   ·obtain ⟨e,he,hb⟩:=Array.any_eq_true'.1 h
    simp only [Bool.and_eq_true,beq_iff_eq] at hb
    have h2:=hall e he hb.1
    rw [hb.2,getD_both hun] at h2
    cases h2
   ·obtain ⟨e,he,hb⟩:=Array.any_eq_true'.1 h
    simp only [Bool.and_eq_true] at hb
    have h2:=hall e he hb.1
    rcases ho:ops[e.on]? with _ | oe
    ·have h3:=hb.2
     cases f with
     | zero=>cases h3
     | succ f=>unfold behind at h3;simp [ho] at h3
    ·exact behind_done inv hun f e.on oe ho (inv.closed e.on oe ho h2) hb.2
theorem anyH_first {i:Nat} {oi:Oper} {v:Value} (hi:ops[i]?=some oi) (hsel:∀ (j:Nat) (o:Oper) cs b,ops[j]?=some o→o.op ≠ .select cs b) (hQ:∀ c a w,Q (.panic c) (a.put oi.dst v) w→Q (.panic c) a w) {g:Nat} :
    ∀ (f:Nat) (listed:Array Bool) (a:Act) (w:World),OInv md ops listed→(∀ j,hd n ex j=false→listed.getD j true=false→behind md ops i g j=true) →
     (∀ j oj,ops[j]?=some oj→j ≠ i→listed.getD j true=false→(∀ e ∈ oj.after,Region.binds md e=true→e.on ≠ i)→oi.apart ops oj=true) →
     i ∈ Region.ready md ops listed→YieldsIf P ops S oi v a→S w →
     anyH P md ops Q S n ex f (listed.setIfInBounds i true) (a.put oi.dst v) w→anyH P md ops Q S n ex (f + 1) listed a w:=by
 intro f
 induction f with
 | zero =>
   intro listed a w _ _ _ hr hy hS H
   refine ⟨fun h=>(by rw [h] at hr;cases hr),fun j hj=>?_⟩
   by_cases hji:j=i
   ·subst hji;exact hy.wpOp hi hS ⟨fun _=>hS,H⟩
   ·have h1:=ready_mono (i:=i) hj hji
    rw [H.1] at h1
    cases h1
 | succ f ih =>
   intro listed a w inv hW hfree hr hy hS H
   have hun:=(mem_ready.1 hr).1
   refine ⟨fun h=>(by rw [h] at hr;cases hr),fun j hj=>?_⟩
   obtain ⟨hjun,oj,hoj,hall⟩:=mem_ready.1 hj
   have hjn:hd n ex j=true:=by
    cases hh:hd n ex j with
    | true=>rfl
    | false=>exact (behind_done inv hun g j oj hoj hall (hW j hh hjun)).elim
   by_cases hji:j=i
   ·subst hji;exact hy.wpOp hi hS ⟨fun _=>hS,H⟩
   ·have hnot:∀ e ∈ oj.after,Region.binds md e=true→e.on ≠ i:=fun e he hb heq=>by
      have h1:=hall e he hb
      rw [heq,getD_both hun] at h1
      cases h1
    have hap:=hfree j oj hoj hji hjun hnot
    have h2:=wpOp_putIf hoj hap (fun cs b=>hsel i oi cs b hi) (fun cs b=>hsel j oj cs b hoj) hQ hy (H.2 j (ready_mono hj hji))
    have hkeep:∀ k,(listed.setIfInBounds j true).getD k true=false→listed.getD k true=false:=fun k hku=>by
     by_cases hjk:j=k
     ·subst hjk;exact hjun
     ·rwa [getD_set_ne true hjk] at hku
    refine wpOp_mono (fun a' w' h3=>⟨h3.2.1,?_⟩) h2
    refine ih (listed.setIfInBounds j true) a' w' (inv.set hj) (fun k hk hku=>hW k hk (hkeep k hku)) (fun k ok hk hki hku hno=>hfree k ok hk hki (hkeep k hku) hno) (ready_mono hr (Ne.symm hji)) h3.1 (h3.2.1 hjn) ?_
    ·rw [Array.setIfInBounds_comm _ _ hji]
     exact h3.2.2
structure Reg (ops:Array Oper) (Q:Exit→Act→World→Prop):Prop where
 sel:∀ (j:Nat) (o:Oper) cs b,ops[j]?=some o→o.op ≠ .select cs b
 panic:∀ c (a:Act) d v w,Q (.panic c) (a.put d v) w→Q (.panic c) a w
def anyI (P:Program) (ops:Array Oper) (Q:Exit→Act→World→Prop) (S:World→Prop) (n:Nat) (ex:List Nat) (f:Nat) (listed:Array Bool) (a:Act) (w:World):Prop:=OInv .any ops listed→anyH P .any ops Q S n ex f listed a w
theorem region_ord {id:Nat} {a:Act} {w:World} {l:List Oper} (n:Nat) (ex:List Nat) (S:World→Prop) (hm:P.follows .mixedOrders=true) (hB:Region.noSelect l.toArray=true)
    (hQ:∀ c (a:Act) d v w,Q (.panic c) (a.put d v) w→Q (.panic c) a w) (h:Reg l.toArray Q→anyI P l.toArray Q S n ex l.toArray.size (Array.replicate l.toArray.size false) a w.drew):(Code.region id l.toArray true).wp P Q a w :=
 wp_region_any hm (any_of_H _ _ _ _ (h ⟨Region.noSelect_spec hB,hQ⟩ ⟨by simp,fun j oj _ hl=>(by rw [getD_replicate_false] at hl;cases hl)⟩))
def waitB (ops:Array Oper) (n:Nat) (ex:List Nat) (listed:Array Bool) (i:Nat):Bool:=(List.range ops.size).all fun j=>hd n ex j || listed.getD j true || behind .any ops i ops.size j
theorem anyI_take (R:Reg ops Q) (i:Nat) {oi:Oper} {v:Value} {f:Nat} {listed:Array Bool} {a:Act} {w:World} (hi:ops[i]?=some oi) (hB:((Region.ready .any ops listed).contains i && Region.free .any ops listed i && waitB ops n ex listed i)=true)
    (hw:Region.wanted oi (yielded ops a.tmps)=true) (hv:∀ w,S w→(execOp a.eval oi).run P w=.ok (.value v) w) (hS:S w) (h:anyI P ops Q S n ex f (listed.setIfInBounds i true) (a.put oi.dst v) w):anyI P ops Q S n ex (f + 1) listed a w:=fun inv=>by
 simp only [Bool.and_eq_true] at hB
 obtain ⟨⟨hr,hf⟩,hW⟩:=hB
 have hr':i ∈ Region.ready .any ops listed:=by simpa using hr
 refine anyH_first (g:=ops.size) hi R.sel (fun c a w h=>R.panic c a _ _ w h) f listed a w inv (fun j hj hun=>?_) (Region.free_spec hi hf) hr' (.inl ⟨hw,hv⟩) hS (h (inv.set hr'))
 rcases Nat.lt_or_ge j ops.size with hlt | hge
 ·have h1:=List.all_eq_true.1 hW j (List.mem_range.2 hlt)
  simpa [hj,hun] using h1
 ·rw [← inv.size] at hge
  simp [Array.getElem?_eq_none hge] at hun
theorem anyI_one (i:Nat) {oi:Oper} {f:Nat} {listed:Array Bool} {a:Act} {w:World} (hrs:Region.ready .any ops listed=[i]) (hi:ops[i]?=some oi)
    (h1:opE P ops Q oi (fun a' w'=>S w'∧anyI P ops Q S n ex f (listed.setIfInBounds i true) a' w') a w):anyI P ops Q S n ex (f + 1) listed a w:=fun inv=>by
 refine ⟨fun h=>(by rw [hrs] at h;cases h),fun t ht=>?_⟩
 have ht':=ht
 rw [hrs] at ht
 obtain rfl:=List.mem_singleton.1 ht
 exact wpOp_mono (fun a' w' h=>⟨fun _=>h.1,h.2 (inv.set ht')⟩) (wpOp_of_opE hi h1)
theorem anyH_of_seq:∀ (l:List Oper) (k:Nat) (listed:Array Bool) (a:Act) (w:World),n ≤ k→(∀ j,l[j]?=ops[k + j]?)→Region.seqB .any ops l.length k listed=true→wpList P ops Q l a w→anyH P .any ops Q S n ex l.length listed a w
 | [],k,listed,a,w,_,_,hB,h=>⟨by simpa [Region.seqB] using hB,h⟩
 | o::l,k,listed,a,w,hk,hl,hB,h=>by
   have h0:ops[k]?=some o:=by simpa using (hl 0).symm
   simp only [List.length_cons,Region.seqB,Bool.and_eq_true,decide_eq_true_eq] at hB
   refine ⟨fun h1=>(by rw [hB.1] at h1;cases h1),fun i hi=>?_⟩
   rw [hB.1] at hi
   have hik:i=k:=by simpa using hi
   subst hik
   have hw:wpOp P ops Q i (wpList P ops Q l) a w:=by unfold wpOp;simp only [h0];exact h
   exact wpOp_mono (fun a' w' h'=>⟨fun h=>(by simp [hd] at h;omega),anyH_of_seq l (i + 1) _ a' w' (by omega) (fun j=>by have:=hl (j + 1);simpa [Nat.add_assoc,Nat.add_comm 1 j] using this) hB.2 h'⟩) hw
theorem anyI_tail {l:List Oper} {f:Nat} {listed:Array Bool} {a:Act} {w:World} (hB:(decide (f=l.length - n) && Region.seqB .any l.toArray (l.length - n) n listed)=true) (h:wpList P l.toArray Q (l.drop n) a w):anyI P l.toArray Q S n ex f listed a w:=fun _=>by
 simp only [Bool.and_eq_true,decide_eq_true_eq] at hB
 obtain ⟨rfl,hB⟩:=hB
 have hdl:(l.drop n).length=l.length - n:=by simp
 have:=anyH_of_seq (P:=P) (Q:=Q) (S:=S) (n:=n) (ex:=ex) (l.drop n) n listed a w (Nat.le_refl _) (fun j=>by simp [List.getElem?_drop]) (by rw [hdl];exact hB) h
 rwa [hdl] at this
theorem opE_step {o:Oper} {K:Act→World→Prop} {a:Act} {w:World} (h:if Region.wanted o (yielded ops a.tmps)=true then o.wp P a w K Q else K (a.put o.dst undef) w):opE P ops Q o K a w:=by
 unfold opE
 split at h
 ·rename_i hw;rw [if_pos hw];exact .inl h
 ·rename_i hw;rw [if_neg hw];exact h
end
end Go.Proofs.YtldfoadildaljaaGreat
end
section
namespace Go.Proofs.YtldfoadildaljaaGreat
open Go.RowKit
section
variable {P:Program} {ops:Array Oper} {Q:Exit→Act→World→Prop} {S:World→Prop} {n:Nat} {ex:List Nat}
theorem anyI_skip (R:Reg ops Q) (i:Nat) {oi:Oper} {f:Nat} {listed:Array Bool} {a:Act} {w:World} (hi:ops[i]?=some oi) (hB:((Region.ready .any ops listed).contains i && Region.free .any ops listed i && waitB ops n ex listed i)=true)
    (hw:Region.wanted oi (yielded ops a.tmps)=false) (hS:S w) (h:anyI P ops Q S n ex f (listed.setIfInBounds i true) (a.put oi.dst undef) w):anyI P ops Q S n ex (f + 1) listed a w:=fun inv=>by
 simp only [Bool.and_eq_true] at hB
 obtain ⟨⟨hr,hf⟩,hW⟩:=hB
 have hr':i ∈ Region.ready .any ops listed:=by simpa using hr
 refine anyH_first (g:=ops.size) hi R.sel (fun c a w h=>R.panic c a _ _ w h) f listed a w inv (fun j hj hun=>?_) (Region.free_spec hi hf) hr' (.inr ⟨hw,rfl⟩) hS (h (inv.set hr'))
 rcases Nat.lt_or_ge j ops.size with hlt | hge
 ·have h1:=List.all_eq_true.1 hW j (List.mem_range.2 hlt)
  simpa [hj,hun] using h1
 ·rw [← inv.size] at hge
  simp [Array.getElem?_eq_none hge] at hun
end
end Go.Proofs.YtldfoadildaljaaGreat
end
section
namespace Go.Proofs.YtldfoadildaljaaGreat
open Go.RowKit
set_option maxHeartbeats 1000000 in
theorem can_ne (l d c l' d' c':Int) (w:World) (hl:-9223372036854775808 ≤ l∧l ≤ 9223372036854775807) (hd:-9223372036854775808 ≤ d∧d ≤ 9223372036854775807) (hc:-9223372036854775808 ≤ c∧c ≤ 9223372036854775807)
    (hl':-9223372036854775808 ≤ l'∧l' ≤ 9223372036854775807) (hd':-9223372036854775808 ≤ d'∧d' ≤ 9223372036854775807) (hc':-9223372036854775808 ≤ c'∧c' ≤ 9223372036854775807)
    (HG:Hid (gOk l d c=true)) (HG':Hid (gOk l' d' c'=true)) (hE:Hid (gEq l d c l' d' c'=false)) :
    Calls Tryz.prog 63 #[.agg #[.int .i64 l,.int .i64 d,.int .i64 c],.agg #[.int .i64 l',.int .i64 d',.int .i64 c']] w fun e w'=>e=.returned (.bool (gCan l d c l' d' c'))∧Below w.heap.size w w':=by
 have S0:=gs2_start w l d c l' d' c' 25 25 (0,0) (0,0)
 have H:=Lib.hid ((gCan_ok HG.out HG'.out hE.out).trans (gGe_eq l d c l' d' c'))
 have hE':=gEq_no hE.out
 have HW:Hid (∀ W,Calls Tryz.prog 78 #[.agg #[.int .i64 l,.int .i64 d,.int .i64 c]] W fun e w'=>e=.returned (.int .i64 (gWid l d c))∧Below W.heap.size W w'):=Lib.hid fun W=>width_any l d c W hl hd hc
 have HW':Hid (∀ W,Calls Tryz.prog 78 #[.agg #[.int .i64 l',.int .i64 d',.int .i64 c']] W fun e w'=>e=.returned (.int .i64 (gWid l' d' c'))∧Below W.heap.size W w'):=Lib.hid fun W=>width_any l' d' c' W hl' hd' hc'
 have HC:Hid (∀ W,Calls Tryz.prog 82 #[.agg #[.int .i64 l,.int .i64 d,.int .i64 c]] W fun e w'=>e=.returned (.int .i64 0)∧Below W.heap.size W w'):=Lib.hid fun W=>check_yes l d c W HG hl hd hc
 have HC':Hid (∀ W,Calls Tryz.prog 82 #[.agg #[.int .i64 l',.int .i64 d',.int .i64 c']] W fun e w'=>e=.returned (.int .i64 0)∧Below W.heap.size W w'):=Lib.hid fun W=>check_yes l' d' c' W HG' hl' hd' hc'
 generalize gCan l d c l' d' c'=can at H
 generalize gWid l d c=wd at H HW
 generalize gWid l' d' c'=wd' at H HW'
 clear hE
 have hE2:(¬ l=l')∨(l=l'∧¬ d=d')∨(l=l'∧d=d'∧¬ c=c'):=by omega
 clear hE'
 go_enter Tryz.func63,Tryz.ntmps63
 go_upto_region 1 with fail
 go_cut [17] (fun v W=>v=.bool false∧GS2 w w.heap.size w.heap.size (w.heap.size + 1) l d c l' d' c' W)
 case first =>
  rcases hE2 with h1 | ⟨rfl,h1⟩ | ⟨rfl,rfl,h1⟩
  all_goals
   go_wp2_with fail
   (with_reducible refine (HC.out _).mono ?_);rintro e w1 ⟨rfl,hb⟩
   have S1:=S0.later hb
   clear hb S0
   obtain ⟨g1,g2,g3,g4,g5,g6,F⟩:=S1
   go_wp2_with fail
   (with_reducible refine (HC'.out _).mono ?_);rintro e w2 ⟨rfl,hb⟩
   have S2:=GS2.later ⟨g1,g2,g3,g4,g5,g6,F⟩ hb
   clear hb g1 g2 g3 g4 g5 g6 F
   obtain ⟨g1,g2,g3,g4,g5,g6,F⟩:=S2
   go_wp2_with fail
   go_meet
   exact ⟨rfl,⟨g1,g2,g3,g4,g5,g6,F⟩⟩
 case rest =>
  obtain ⟨rfl,S3⟩:=hcut
  clear S0 hE2
  obtain ⟨g1,g2,g3,g4,g5,g6,F⟩:=S3
  by_cases hdd:d ≤ d'
  ·by_cases hll:l ≤ l'
   ·have S3:GS2 w w.heap.size w.heap.size (w.heap.size + 1) l d c l' d' c' wc:=⟨g1,g2,g3,g4,g5,g6,F⟩
    clear g1 g2 g3 g4 g5 g6 F
    have Hn:=Lib.hid (H.out.trans (show _=decide (wd ≤ wd') by simp [hdd,hll]))
    go_wp2_with fail
    go_region_held3 (GS2 w w.heap.size w.heap.size (w.heap.size + 1) l d c l' d' c')
     (first | assumption | exact GS2.drew ‹_›)
     (first
      |(go_at_call_of 78 (Value.agg #[.int .i64 l,.int .i64 d,.int .i64 c]);(with_reducible refine (HW.out _).mono ?_);rintro e wA ⟨rfl,hbA⟩;have SA:GS2 w w.heap.size w.heap.size (w.heap.size + 1) l d c l' d' c' wA:=GS2.later (by first | assumption | exact GS2.drew ‹_›) hbA;clear hbA)
      |(go_at_call_of 78 (Value.agg #[.int .i64 l',.int .i64 d',.int .i64 c']);(with_reducible refine (HW'.out _).mono ?_);rintro e wB ⟨rfl,hbB⟩;have SB:GS2 w w.heap.size w.heap.size (w.heap.size + 1) l d c l' d' c' wB:=GS2.later (by first | assumption | exact GS2.drew ‹_›) hbB;clear hbB))
    go_wp2
    go_ret
    exact ⟨by rw [Hn.out];rfl,SA.2.2.2.2.2.2⟩
   ·have Hn:=Lib.hid (H.out.trans (decide_eq_false (by omega)))
    have e1:decide (d ≤ d')=true:=decide_eq_true hdd
    have e2:decide (l ≤ l')=false:=decide_eq_false hll
    go_wp2_with fail
    go_quiet (fail)
    go_wp2
    go_ret
    exact ⟨by rw [Hn.out];rfl,F.trans (belowN _ _ _)⟩
  ·have Hn:=Lib.hid (H.out.trans (decide_eq_false (by omega)))
   have e1:decide (d ≤ d')=false:=decide_eq_false hdd
   go_wp2_with fail
   go_quiet (fail)
   go_wp2
   go_ret
   exact ⟨by rw [Hn.out];rfl,F.trans (belowN _ _ _)⟩
set_option maxHeartbeats 1000000 in
theorem can_any (l d c l' d' c':Int) (w:World) (hl:-9223372036854775808 ≤ l∧l ≤ 9223372036854775807) (hd:-9223372036854775808 ≤ d∧d ≤ 9223372036854775807) (hc:-9223372036854775808 ≤ c∧c ≤ 9223372036854775807)
    (hl':-9223372036854775808 ≤ l'∧l' ≤ 9223372036854775807) (hd':-9223372036854775808 ≤ d'∧d' ≤ 9223372036854775807) (hc':-9223372036854775808 ≤ c'∧c' ≤ 9223372036854775807) :
    Calls Tryz.prog 63 #[.agg #[.int .i64 l,.int .i64 d,.int .i64 c],.agg #[.int .i64 l',.int .i64 d',.int .i64 c']] w fun e w'=>e=.returned (.bool (gCan l d c l' d' c'))∧Below w.heap.size w w':=by
 have S0:=gs2_start w l d c l' d' c' 25 25 (0,0) (0,0)
 cases hG:gOk l d c
 ·have H:Hid (gCan l d c l' d' c'=false):=by unfold gCan;rw [hG];rfl
  have HG:=Lib.hid hG
  clear hG
  go_enter Tryz.func63,Tryz.ntmps63
  go_wp2_with fail
  (with_reducible refine (check_no l d c _ HG hl hd hc).mono ?_);rintro e w1 ⟨rfl,hb⟩
  have S1:=S0.later hb
  clear hb S0
  go_wp2_with fail
  go_ret
  exact ⟨by rw [H.out];rfl,S1.2.2.2.2.2.2⟩
 ·have HG:=Lib.hid hG
  cases hG':gOk l' d' c'
  ·have H:Hid (gCan l d c l' d' c'=false):=by unfold gCan;rw [hG,hG'];rfl
   have HG':=Lib.hid hG'
   clear hG hG'
   go_enter Tryz.func63,Tryz.ntmps63
   go_wp2_with fail
   (with_reducible refine (check_yes l d c _ HG hl hd hc).mono ?_);rintro e w1 ⟨rfl,hb⟩
   have S1:=S0.later hb
   clear hb S0
   obtain ⟨g1,g2,g3,g4,g5,g6,F⟩:=S1
   go_wp2_with fail
   (with_reducible refine (check_no l' d' c' _ HG' hl' hd' hc').mono ?_);rintro e w2 ⟨rfl,hb⟩
   have S2:=GS2.later ⟨g1,g2,g3,g4,g5,g6,F⟩ hb
   clear hb g1 g2 g3 g4 g5 g6 F
   go_wp2_with fail
   go_ret
   exact ⟨by rw [H.out];rfl,S2.2.2.2.2.2.2⟩
  ·have HG':=Lib.hid hG'
   cases hE:gEq l d c l' d' c'
   ·exact can_ne l d c l' d' c' w hl hd hc hl' hd' hc' HG HG' (Lib.hid hE)
   ·obtain ⟨rfl,rfl,rfl⟩:=gEq_yes hE
    have H:Hid (gCan l d c l d c=false):=by unfold gCan;rw [hE,Bool.not_true,Bool.and_false,Bool.false_and];rfl
    clear hG hG' hE
    go_enter Tryz.func63,Tryz.ntmps63
    go_wp2_with fail
    (with_reducible refine (check_yes l d c _ HG hl hd hc).mono ?_);rintro e w1 ⟨rfl,hb⟩
    have S1:=S0.later hb
    clear hb S0
    obtain ⟨g1,g2,g3,g4,g5,g6,F⟩:=S1
    go_wp2_with fail
    (with_reducible refine (check_yes l d c _ HG hl hd hc).mono ?_);rintro e w2 ⟨rfl,hb⟩
    have S2:=GS2.later ⟨g1,g2,g3,g4,g5,g6,F⟩ hb
    clear hb g1 g2 g3 g4 g5 g6 F
    obtain ⟨g1,g2,g3,g4,g5,g6,F⟩:=S2
    go_wp2_with fail
    go_ret
    exact ⟨by rw [H.out];rfl,F⟩
end Go.Proofs.YtldfoadildaljaaGreat
end
