/- Texts put together: PlaceBackMath, PlaceAll, Chg, DskMem, MapKey. -/
import Derived.Test.YtldfoadildaljaaGreatWmaa
import Derived.Deep.MidRow
import Derived.Test.YtldfoadildaljaaGreatProg
import Derived.Maps.OwnSet
section
namespace Go.Proofs.YtldfoadildaljaaGreat
theorem ld_cases {l d c:Int} (h:gOk l d c=true):(l=5∧d=3)∨(l=5∧d=4)∨(l=5∧d=5)∨(l=5∧d=6)∨(l=5∧d=7)∨(l=5∧d=8)∨(l=6∧d=4)∨(l=6∧d=5)∨(l=6∧d=6)∨(l=6∧d=7)∨(l=6∧d=8):=by
 obtain ⟨h1,h8,_⟩:=gOk_yes h
 rcases h1 with ⟨rfl,h3⟩ | ⟨rfl,h4⟩
 ·have hd:d=3∨d=4∨d=5∨d=6∨d=7∨d=8:=by omega
  rcases hd with rfl | rfl | rfl | rfl | rfl | rfl <;> simp
 ·have hd:d=4∨d=5∨d=6∨d=7∨d=8:=by omega
  rcases hd with rfl | rfl | rfl | rfl | rfl <;> simp
theorem plK_only {l d c i r k:Int} (h:plDok l d c r k=true) (he:plD l d c r k=i):k=plK l d c i r:=by
 obtain ⟨hk,h0,h1⟩:=plDok_yes h
 obtain ⟨hg,_,_⟩:=plOk_yes hk
 have hf:=plF_bd l c r (show 1 ≤ d by have:=gOk_bd hg;omega)
 rw [plD_yes h] at he
 rw [gWid_yes hg] at h1
 unfold plK
 generalize plF l d c r=f at hf he
 subst he
 rcases ld_cases hg with ⟨rfl,rfl⟩ | ⟨rfl,rfl⟩ | ⟨rfl,rfl⟩ | ⟨rfl,rfl⟩ | ⟨rfl,rfl⟩ | ⟨rfl,rfl⟩ | ⟨rfl,rfl⟩ | ⟨rfl,rfl⟩ | ⟨rfl,rfl⟩ | ⟨rfl,rfl⟩ | ⟨rfl,rfl⟩ <;> omega
end Go.Proofs.YtldfoadildaljaaGreat
end
section
namespace Go.Proofs.YtldfoadildaljaaGreat
theorem wd_cases {l d c:Int} (h:gOk l d c=true):(d - (l - 4)=2∨d - (l - 4)=3∨d - (l - 4)=4∨d - (l - 4)=5∨d - (l - 4)=6∨d - (l - 4)=7)∧(c=1∨c=2∨c=4):=by
 obtain ⟨h1,h8,hc⟩:=gOk_yes h
 refine ⟨?_,hc⟩
 omega
theorem of_row {l d c n:Int} (hg:gOk l d c=true) (h0:0 ≤ n) (h1:n < gCap l d c) :
    0 ≤ plRow l d c n∧plRow l d c n < 16∧0 ≤ n / c % (d - (l - 4))∧n / c % (d - (l - 4)) < d - (l - 4)∧plRow l d c n / c=n / c / (d - (l - 4))∧plN l d c (plRow l d c n) (n / c % (d - (l - 4)))=n:=by
 obtain ⟨hw,hc⟩:=wd_cases hg
 rw [gCap_yes hg] at h1
 unfold plN plRow
 generalize d - (l - 4)=wd at hw h1
 rcases hw with rfl | rfl | rfl | rfl | rfl | rfl <;> rcases hc with rfl | rfl | rfl <;> omega
theorem num_row {l d c r k:Int} (h:plDok l d c r k=true):0 ≤ plN l d c r k∧plN l d c r k < gCap l d c∧plRow l d c (plN l d c r k)=r∧plN l d c r k / c % (d - (l - 4))=k:=by
 obtain ⟨hk,k0,k1⟩:=plDok_yes h
 obtain ⟨hg,r0,r1⟩:=plOk_yes hk
 obtain ⟨hw,hc⟩:=wd_cases hg
 rw [gWid_yes hg] at k1
 rw [gCap_yes hg]
 unfold plN plRow
 generalize d - (l - 4)=wd at hw k1
 rcases hw with rfl | rfl | rfl | rfl | rfl | rfl <;> rcases hc with rfl | rfl | rfl <;> omega
theorem plDok_mk {l d c r k:Int} (h:plOk l d c r=true) (k0:0 ≤ k) (k1:k < d - (l - 4)):plDok l d c r k=true:=by
 unfold plDok
 rw [h,gWid_yes (plOk_yes h).1,decide_eq_true ⟨k0,k1⟩];rfl
theorem data_ne {l d c r k:Int} (h:plDok l d c r k=true):0 ≤ plD l d c r k∧plD l d c r k < d∧plD l d c r k ≠ plP l d c r∧plD l d c r k ≠ plQ l d c r:=by
 obtain ⟨hk,k0,k1⟩:=plDok_yes h
 obtain ⟨hg,_,_⟩:=plOk_yes hk
 have hm:=rem_bd (r / c) (show 1 ≤ d by have:=gOk_bd hg;omega)
 rw [plD_yes h,plP_yes hk]
 rw [gWid_yes hg] at k1
 unfold plQ plF
 rw [if_pos hk]
 generalize r / c % d=m at hm
 rcases ld_cases hg with ⟨rfl,rfl⟩ | ⟨rfl,rfl⟩ | ⟨rfl,rfl⟩ | ⟨rfl,rfl⟩ | ⟨rfl,rfl⟩ | ⟨rfl,rfl⟩ | ⟨rfl,rfl⟩ | ⟨rfl,rfl⟩ | ⟨rfl,rfl⟩ | ⟨rfl,rfl⟩ | ⟨rfl,rfl⟩ <;> simp <;> omega
theorem back_data {l d c r k:Int} (h:plDok l d c r k=true):plBOk l d c (plD l d c r k) r=true∧plBk l d c (plD l d c r k) r=0∧plBn l d c (plD l d c r k) r=plN l d c r k:=by
 obtain ⟨a,b,e1,e2⟩:=data_ne h
 have hk:=(plDok_yes h).1
 have hb:plBOk l d c (plD l d c r k) r=true:=by unfold plBOk;rw [hk,decide_eq_true ⟨a,b⟩];rfl
 refine ⟨hb,?_,?_⟩
 ·unfold plBk;rw [if_pos hb,if_neg e1,if_neg e2]
 ·unfold plBn;rw [if_pos hb,if_neg e1,if_neg e2,← plK_only h rfl]
theorem of_yes {l d c n:Int} (hg:gOk l d c=true) (h0:0 ≤ n) (h1:n < gCap l d c) :
    plOfOk l d c n=true∧plOfR l d c n=plRow l d c n∧plOfD l d c n=plD l d c (plRow l d c n) (n / c % (d - (l - 4)))∧plDok l d c (plRow l d c n) (n / c % (d - (l - 4)))=true:=by
 obtain ⟨a,b,k0,k1,_,_⟩:=of_row hg h0 h1
 have hok:plOfOk l d c n=true:=decide_eq_true ⟨h0,h1⟩
 exact ⟨hok,by rw [plOfR,if_pos hok],by rw [plOfD,if_pos hok],plDok_mk (plOk_mk hg a b) k0 k1⟩
theorem of_back {l d c n:Int} (hg:gOk l d c=true) (h0:0 ≤ n) (h1:n < gCap l d c) :
    plOfOk l d c n=true∧(0 ≤ plOfD l d c n∧plOfD l d c n < d)∧(0 ≤ plOfR l d c n∧plOfR l d c n < 16)∧plBOk l d c (plOfD l d c n) (plOfR l d c n)=true∧plBk l d c (plOfD l d c n) (plOfR l d c n)=0∧plBn l d c (plOfD l d c n) (plOfR l d c n)=n:=by
 obtain ⟨a,b,k0,k1,_,hN⟩:=of_row hg h0 h1
 obtain ⟨hok,hr,hd,hk⟩:=of_yes hg h0 h1
 obtain ⟨b1,b2,b3⟩:=back_data hk
 obtain ⟨d0,d1,_,_⟩:=data_ne hk
 rw [hr,hd]
 exact ⟨hok,⟨d0,d1⟩,⟨a,b⟩,b1,b2,by rw [b3];exact hN⟩
theorem of_num {l d c r k:Int} (h:plDok l d c r k=true):plOfOk l d c (plN l d c r k)=true∧plOfD l d c (plN l d c r k)=plD l d c r k∧plOfR l d c (plN l d c r k)=r:=by
 have hg:=(plOk_yes (plDok_yes h).1).1
 obtain ⟨n0,n1,hr,hk⟩:=num_row h
 obtain ⟨hok,h2,h3,_⟩:=of_yes hg n0 n1
 refine ⟨hok,?_,?_⟩
 ·rw [h3,hr,hk]
 ·rw [h2,hr]
end Go.Proofs.YtldfoadildaljaaGreat
end
section
namespace Go.Proofs.YtldfoadildaljaaGreat
open Go.RowKit
structure Chg (F:Nat→Prop) (w w':World):Prop where
 os:w'.os=w.os
 tape:w'.tape=w.tape
 output:w'.output=w.output
 size:w.heap.size ≤ w'.heap.size
 block:∀ k,k < w.heap.size→¬ F k→w'.heap[k]?=w.heap[k]?
section
variable {F G:Nat→Prop} {a b c:World}
theorem Chg.refl (F:Nat→Prop) (w:World):Chg F w w:=⟨rfl,rfl,rfl,Nat.le_refl _,fun _ _ _=>rfl⟩
theorem Chg.trans (h:Chg F a b) (k:Chg G b c) (hs:∀ i,i < a.heap.size→G i→F i):Chg F a c :=
 ⟨k.os.trans h.os,k.tape.trans h.tape,k.output.trans h.output,Nat.le_trans h.size k.size,fun i hi hn=>(k.block i (Nat.lt_of_lt_of_le hi h.size) fun hg=>hn (hs i hi hg)).trans (h.block i hi hn)⟩
theorem Chg.mono (h:Chg F a b) (hs:∀ i,i < a.heap.size→F i→G i):Chg G a b:=⟨h.os,h.tape,h.output,h.size,fun i hi hn=>h.block i hi fun hf=>hn (hs i hi hf)⟩
theorem chg_below (F:Nat→Prop) (h:Below a.heap.size a b):Chg F a b:=⟨h.os,h.tape,h.output,h.size,fun i hi _=>h.block i hi⟩
theorem chg_grown {row:Option Nat} (h:a.grownBy b row):Chg (fun k=>row=some k) a b:=⟨h.os,h.tape,h.output,h.size,fun i hi hn=>h.block i hi fun e=>hn e.symm⟩
theorem Chg.below {B:Nat} (h:Chg F a b) (hF:∀ k,F k→B ≤ k) (hB:B ≤ a.heap.size):Below B a b:=⟨h.os,h.tape,h.output,h.size,fun i hi=>h.block i (by omega) fun hf=>by have:=hF i hf;omega⟩
theorem Chg.drewN (h:Chg F a b) (n:Nat):Chg F a (b.drewN n):=⟨h.os,h.tape,h.output,h.size,h.block⟩
theorem Chg.ofDrew (h:Chg F a.drew b):Chg F a b:=⟨h.os,h.tape,h.output,h.size,h.block⟩
theorem Chg.alloc (h:Chg F a b) (o:Obj):Chg F a (b.alloc o):=h.trans (chg_below F (below1 b o)) fun _ _ h=>h
end
theorem own_heap {w w':World} {B:Nat} {e:TypeId} {size:Nat} {v:Value} {n:Nat} {xs:List Value} (h:w.ownsRow B e size v n xs) (hk:∀ k,v.ownBlock=some k→w'.heap[k]?=w.heap[k]?):w'.ownsRow B e size v n xs:=by
 refine ⟨h.1,?_⟩
 rcases h.2 with h1 | ⟨g,cap,cur,rfl,h2,h3,r⟩
 ·exact .inl h1
 ·exact .inr ⟨g,cap,cur,rfl,h2,(hk g rfl).trans h3,r⟩
theorem own_chg {F:Nat→Prop} {w w':World} {B:Nat} {e:TypeId} {size:Nat} {v:Value} {n:Nat} {xs:List Value} (h:w.ownsRow B e size v n xs) (hc:Chg F w w') (hn:∀ k,v.ownBlock=some k→¬ F k):w'.ownsRow B e size v n xs :=
 own_heap h fun k hk=>hc.block k (h.lt k hk).2 (hn k hk)
def spl (l:List Value) (o:Nat) (vs:List Value):List Value:=l.take o ++ vs ++ l.drop (o + vs.length)
theorem spl_mid {A X C vs:List Value} {o:Nat} (ho:A.length=o) (hx:X.length=vs.length):spl (A ++ X ++ C) o vs=A ++ vs ++ C:=by
 unfold spl
 subst ho
 have e1:(A ++ X ++ C).take A.length=A:=by rw [List.append_assoc,List.take_left]
 have e2:(A ++ X ++ C).drop (A.length + vs.length)=C:=by rw [← hx,← List.length_append,List.drop_left]
 rw [e1,e2]
theorem spl_len {l vs:List Value} {o:Nat} (h:o + vs.length ≤ l.length):(spl l o vs).length=l.length:=by
 unfold spl;simp;omega
section
variable {P:Program}
theorem run_storeVar_blk (w:World) (b o:Nat) (ty:TypeId) (v:Value) (cur:List Value) (t:TypeId) (hb:w.heap[b]?=some (.cells cur.toArray t (0,0))) (hi:(P.info? ty).map (·.size)=some v.cells.size)
    (ho:o + v.cells.size ≤ cur.length) (h1:∀ u ∈ v.cells.toList,u.oneCell'=true):(storeVar ty ⟨b,o,none⟩ v).run P w=.ok () (w.setRow b (spl cur o v.cells.toList).toArray):=by
 have h:=run_storeCells_at P b o t v.cells.toList 0 cur.toArray w hb (by simpa using ho) h1
 cases hq:P.info? ty with
 | none=>simp [hq] at hi
 | some i =>
   have hs:v.cells.size=i.size:=by simp [hq] at hi;omega
   simp only [Nat.add_zero] at h
   simp [storeVar,sizeOf,typeInfo,hq,hs,h,spl]
theorem wpList_store_blk {ops:Array Oper} {rest:List Oper} {op:Oper} {a:Act} {w:World} {Q:Exit→Act→World→Prop} (hgd:op.guard=none) (ty:TypeId) (x y:Operand) (ho:op.op=.store ty x y)
    (b o:Nat) (v:Value) (hx:a.eval x=.pointer (some ⟨b,o,none⟩)) (hy:a.eval y=v) (cur:List Value) (t:TypeId) (hb:w.heap[b]?=some (.cells cur.toArray t (0,0)))
    (vs:List Value) (hvs:v.cells=vs.toArray) (n:Nat) (hn:vs.length=n) (hi:(P.info? ty).map (·.size)=some n) (hl:o + n ≤ cur.length) (h1:∀ u ∈ vs,u.oneCell'=true)
    (new:List Value) (hnew:spl cur o vs=new)
    (h:∀ w',w'.heap[b]?=some (.cells new.toArray t (0,0))→w.grownBy w' (some b)→wpList P ops Q rest (a.put op.dst undef) w'):wpList P ops Q (op::rest) a w:=by
 subst hn hnew
 refine wpList_plain hgd fun K hK=>?_
 have hr:=run_storeVar_blk (P:=P) w b o ty v cur t hb (by rw [hi,hvs];rfl) (by rw [hvs];exact hl) (by rw [hvs];exact h1)
 unfold Oper.wp execOp
 simp only [ho,hx,hy,Instr.storeAt,Instr.sureAddr,Sem.run_bind,Sem.run_pure,Result.andThen_ok,hr]
 refine hK _ _ (h _ ?_ ?_)
 ·rw [hvs];exact setRow_heap w b _ _ t (0,0) hb
 ·exact ⟨rfl,rfl,rfl,by simp,fun k _ hk=>setRow_other w b k _ (fun e=>hk (by rw [e]))⟩
theorem wpList_build_run {ops:Array Oper} {rest:List Oper} {op:Oper} {a:Act} {w:World} {Q:Exit→Act→World→Prop} (hgd:op.guard=none) (t:TypeId) (parts:Array (Nat × Operand)) (ho:op.op=.build t parts)
    (ps:Array (Nat × Value)) (hps:parts.map (fun (i,x)=>(i,a.eval x))=ps) (v:Value) (hr:(Instr.build t ps).run P w=.ok v w)
    (h:wpList P ops Q rest (a.put op.dst v) w):wpList P ops Q (op::rest) a w:=by
 subst hps
 refine wpList_plain hgd fun K hK=>?_
 unfold Oper.wp execOp
 simp only [ho,Sem.run_bind,Sem.run_pure,Result.andThen_ok,hr]
 exact hK _ _ h
end
end Go.Proofs.YtldfoadildaljaaGreat
end
section
namespace Go.Proofs.YtldfoadildaljaaGreat
open Go.RowKit
def dcells (S N:List UInt8) (pv:Value) (f:Bool):List Value:=S.map bv ++ N.map bv ++ ([pv,Value.bool f]:List Value)
def wcell (p:Nat × List UInt8):List Value:=Value.int .i64 (p.1:Int)::p.2.map bv
def wcells (ps:List (Nat × List UInt8)):List Value:=ps.flatMap wcell
structure DskAt (w:World) (B b:Nat) (pv:Value) (D:Dsk):Prop where
 blk:w.heap[b]?=some (.cells (dcells D.S D.now pv D.f).toArray 97 (0,0))
 own:w.ownsRow B 99 33 pv D.ps.length (wcells D.ps)
 le:B ≤ b
 ne:pv.ownBlock ≠ some b
 ok:D.Ok
def DF (b:Nat) (pv:Value) (k:Nat):Prop:=k=b∨pv.ownBlock=some k
def NewOr (w:World) (pv pv':Value):Prop:=∀ k,pv'.ownBlock=some k→pv.ownBlock=some k∨w.heap.size ≤ k
section
variable {w w':World} {B b:Nat} {pv:Value} {D:Dsk}
theorem DskAt.lt (h:DskAt w B b pv D):b < w.heap.size:=(Array.getElem?_eq_some_iff.1 h.blk).1
theorem DskAt.plt (h:DskAt w B b pv D):∀ k,pv.ownBlock=some k→B ≤ k∧k < w.heap.size:=h.own.lt
theorem DskAt.heap (h:DskAt w B b pv D) (hb:w'.heap[b]?=w.heap[b]?) (hp:∀ k,pv.ownBlock=some k→w'.heap[k]?=w.heap[k]?):DskAt w' B b pv D :=
 ⟨hb.trans h.blk,own_heap h.own hp,h.le,h.ne,h.ok⟩
theorem DskAt.chg {F:Nat→Prop} (h:DskAt w B b pv D) (hc:Chg F w w') (hb:¬ F b) (hp:∀ k,pv.ownBlock=some k→¬ F k):DskAt w' B b pv D :=
 h.heap (hc.block b h.lt hb) fun k hk=>hc.block k (h.plt k hk).2 (hp k hk)
theorem DskAt.below (h:DskAt w B b pv D) (hc:Below w.heap.size w w'):DskAt w' B b pv D :=
 h.heap (hc.block b h.lt) fun k hk=>hc.block k (h.plt k hk).2
theorem DskAt.mono {B':Nat} (h:DskAt w B b pv D) (hB:B' ≤ B):DskAt w B' b pv D :=
 ⟨h.blk,by
  refine ⟨h.own.1,?_⟩
  rcases h.own.2 with h1 | ⟨g,cap,cur,h1,h2,r⟩
  ·exact .inl h1
  ·exact .inr ⟨g,cap,cur,h1,by omega,r⟩,by have:=h.le;omega,h.ne,h.ok⟩
theorem DF.le (h:DskAt w B b pv D) {k:Nat} (hk:DF b pv k):B ≤ k:=by
 rcases hk with rfl | hk
 ·exact h.le
 ·exact (h.plt k hk).1
theorem NewOr.refl (w:World) (pv:Value):NewOr w pv pv:=fun _ h=>.inl h
theorem NewOr.none (w:World) (pv:Value):NewOr w pv (.slice none 0 0):=fun _ h=>by simp [Value.ownBlock] at h
theorem dcells_len {S N:List UInt8} (hS:S.length=1664) (hN:N.length=1664) (pv:Value) (f:Bool):(dcells S N pv f).length=3330:=by
 unfold dcells;simp [hS,hN]
theorem wcell_len {p:Nat × List UInt8} (h:p.2.length=32):(wcell p).length=33:=by unfold wcell;simp [h]
theorem wcells_snoc (ps:List (Nat × List UInt8)) (p:Nat × List UInt8):wcells (ps ++ [p])=wcells ps ++ wcell p:=by unfold wcells;simp
theorem dcells_pv {S N:List UInt8} (hS:S.length=1664) (hN:N.length=1664) (pv:Value) (f:Bool):(dcells S N pv f)[3328]?=some pv:=by
 unfold dcells
 rw [List.getElem?_append_right (by simp [hS,hN])]
 simp [hS,hN]
theorem dcells_f {S N:List UInt8} (hS:S.length=1664) (hN:N.length=1664) (pv:Value) (f:Bool):(dcells S N pv f)[3329]?=some (.bool f):=by
 unfold dcells
 rw [List.getElem?_append_right (by simp [hS,hN])]
 simp [hS,hN]
theorem dcells_S {S N:List UInt8} (pv:Value) (f:Bool) {i:Nat} (hi:i < S.length):(dcells S N pv f)[i]?=S[i]?.map bv:=by
 unfold dcells
 rw [List.append_assoc,List.getElem?_append_left (by simpa using hi),List.getElem?_map]
theorem dcells_N {S N:List UInt8} (hS:S.length=1664) (pv:Value) (f:Bool) {i:Nat} (hi:i < N.length):(dcells S N pv f)[1664 + i]?=N[i]?.map bv:=by
 unfold dcells
 rw [List.append_assoc,List.getElem?_append_right (by simp [hS]),List.getElem?_append_left (by simp [hS];omega)]
 simp [hS]
section
variable {S N:List UInt8} {f:Bool} {t:TypeId}
theorem cell_dpv (hb:w.heap[b]?=some (.cells (dcells S N pv f).toArray t (0,0))) (hS:S.length=1664) (hN:N.length=1664):w.cell? ⟨b,3328,none⟩=some pv:=by
 rw [cell_of_row w b _ _ t (0,0) hb,List.getElem?_toArray];exact dcells_pv hS hN pv f
theorem cell_df (hb:w.heap[b]?=some (.cells (dcells S N pv f).toArray t (0,0))) (hS:S.length=1664) (hN:N.length=1664):w.cell? ⟨b,3329,none⟩=some (.bool f):=by
 rw [cell_of_row w b _ _ t (0,0) hb,List.getElem?_toArray];exact dcells_f hS hN pv f
theorem range_S (hb:w.heap[b]?=some (.cells (dcells S N pv f).toArray t (0,0))):w.rangeAt b 0 (S.map bv):=fun j v hj=>by
 have hl:j < S.length:=by have:=(List.getElem?_eq_some_iff.1 hj).1;simpa using this
 rw [cell_of_row w b _ _ t (0,0) hb,List.getElem?_toArray,Nat.zero_add,dcells_S pv f hl,← hj,List.getElem?_map]
theorem range_N (hb:w.heap[b]?=some (.cells (dcells S N pv f).toArray t (0,0))) (hS:S.length=1664):w.rangeAt b 1664 (N.map bv):=fun j v hj=>by
 have hl:j < N.length:=by have:=(List.getElem?_eq_some_iff.1 hj).1;simpa using this
 rw [cell_of_row w b _ _ t (0,0) hb,List.getElem?_toArray,dcells_N hS pv f hl,← hj,List.getElem?_map]
theorem range_sec {L:List UInt8} {o k:Nat} (h:w.rangeAt b o (L.map bv)):w.rangeAt b (o + k * 32) ((secAt L k).map bv):=fun j v hj=>by
 rw [List.getElem?_map,secAt_get] at hj
 split at hj
 ·rw [Nat.add_assoc]
  exact h (k * 32 + j) v (by rw [List.getElem?_map];exact hj)
 ·cases hj
theorem spl_S {S':List UInt8} (hl:S'.length=S.length):spl (dcells S N pv f) 0 (S'.map bv)=dcells S' N pv f:=by
 unfold dcells
 rw [List.append_assoc,List.append_assoc]
 exact spl_mid (A:=[]) (X:=S.map bv) (C:=N.map bv ++ [pv,Value.bool f]) (vs:=S'.map bv) (o:=0) rfl (by simp [hl])
theorem spl_pv {pv':Value} (hS:S.length=1664) (hN:N.length=1664):spl (dcells S N pv f) 3328 [pv']=dcells S N pv' f:=by
 unfold dcells
 rw [show (S.map bv ++ N.map bv ++ [pv,Value.bool f])=S.map bv ++ N.map bv ++ [pv] ++ [Value.bool f] by simp]
 exact (spl_mid (A:=S.map bv ++ N.map bv) (X:=[pv]) (C:=[Value.bool f]) (vs:=[pv']) (o:=3328) (by simp [hS,hN]) rfl).trans (by simp)
theorem map_put {L x:List UInt8} {k:Nat}:(putAt L k x).map bv=(L.take (k * 32)).map bv ++ x.map bv ++ (L.drop (k * 32 + 32)).map bv:=by unfold putAt;simp
theorem map_sec {L:List UInt8} {k:Nat}:L.map bv=(L.take (k * 32)).map bv ++ (secAt L k).map bv ++ (L.drop (k * 32 + 32)).map bv:=by
 rw [← map_put,put_sec]
theorem spl_Ssec {x:List UInt8} {k:Nat} (hS:S.length=1664) (hk:k < 52) (hx:x.length=32):spl (dcells S N pv f) (k * 32) (x.map bv)=dcells (putAt S k x) N pv f:=by
 have hs:(secAt S k).length=32:=secAt_len (by omega)
 unfold dcells
 rw [map_put,map_sec (L:=S) (k:=k)]
 generalize hT:(S.drop (k * 32 + 32)).map bv=T
 rw [List.append_assoc (_ ++ _) T,List.append_assoc (_ ++ _) (T ++ _),List.append_assoc (_ ++ _) T,List.append_assoc (_ ++ _) (T ++ _)]
 exact spl_mid (by rw [List.length_map,List.length_take];omega) (by simp [hs,hx])
theorem spl_Nsec {x:List UInt8} {k:Nat} (hS:S.length=1664) (hN:N.length=1664) (hk:k < 52) (hx:x.length=32):spl (dcells S N pv f) (1664 + k * 32) (x.map bv)=dcells S (putAt N k x) pv f:=by
 have hs:(secAt N k).length=32:=secAt_len (by omega)
 unfold dcells
 rw [map_put,map_sec (L:=N) (k:=k)]
 generalize hT:(N.drop (k * 32 + 32)).map bv=T
 generalize hT2:(N.take (k * 32)).map bv=T2
 have e:∀ X:List Value,S.map bv ++ (T2 ++ X ++ T) ++ [pv,Value.bool f]=(S.map bv ++ T2) ++ X ++ (T ++ [pv,Value.bool f]):=fun X=>by simp
 rw [e,e]
 exact spl_mid (by rw [List.length_append,List.length_map,← hT2,List.length_map,List.length_take];omega) (by simp [hs,hx])
end
end
theorem info_dsk:(Tryz.prog.info? 97).map (fun i=>(i.zero,i.size))=some (some (.agg (dcells (List.replicate 1664 0) (List.replicate 1664 0) (.slice none 0 0) false).toArray),3330):=by kernel_rfl
theorem size_arr:(Tryz.prog.info? 94).map (·.size)=some 1664:=by kernel_rfl
theorem size_sec:(Tryz.prog.info? 93).map (·.size)=some 32:=by kernel_rfl
theorem size_pend:(Tryz.prog.info? 95).map (·.size)=some 1:=by kernel_rfl
theorem size_dsk:(Tryz.prog.info? 97).map (·.size)=some 3330:=by kernel_rfl
theorem build_new (w:World):(Instr.build 97 #[]).run Tryz.prog w=.ok (.agg (dcells (List.replicate 1664 0) (List.replicate 1664 0) (.slice none 0 0) false).toArray) w:=by kernel_rfl
theorem build_failed (w:World):(Instr.build 97 #[(3,.bool true)]).run Tryz.prog w=.ok (.agg (dcells (List.replicate 1664 0) (List.replicate 1664 0) (.slice none 0 0) true).toArray) w:=by kernel_rfl
end Go.Proofs.YtldfoadildaljaaGreat
end
section
namespace Go.Proofs.YtldfoadildaljaaGreat
open Go.RowKit
theorem keyI:Maps.Keyed Tryz.prog 3:=Maps.int_keyed Tryz.underlying3
theorem keyI_of (x:Int) (hx:(Lit.int .i64 x).wf=true):keyOf Tryz.prog 3 (.int .i64 x)=some (.int .i64 x):=Maps.keyOf_int_mk Tryz.underlying3 hx
theorem lit_int_inj {a b:Int} (h:Lit.int .i64 a=.int .i64 b):a=b:=by injection h
theorem keyLitI (x:Int):WideAt.IsKeyLit (.int .i64 x):=trivial
def putF {α:Type} (F:Int→Option α) (k:Int) (v:α):Int→Option α:=fun x=>if x=k then some v else F x
end Go.Proofs.YtldfoadildaljaaGreat
end
