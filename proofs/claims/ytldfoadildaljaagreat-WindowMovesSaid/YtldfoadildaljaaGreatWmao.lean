/- Texts put together: DskDelete, DskDamage. -/
import Derived.Test.YtldfoadildaljaaGreatWmak
import Derived.Lib.SliceRun
section
set_option maxRecDepth 8000
namespace Go.Proofs.YtldfoadildaljaaGreat
open Go.RowKit
section
variable {P:Program}
theorem wpList_clear_blk {ops:Array Oper} {rest:List Oper} {op:Oper} {a:Act} {w:World} {Q:Exit→Act→World→Prop} (hgd:op.guard=none) (x:Operand) (t e:TypeId) (ho:op.op=.call { callee:=.builtin .clear,args:=#[x],argTypes:=#[t] })
    (g o n c sz:Nat) (hx:a.eval x=.slice (some ⟨g,o,none⟩) n c) (hn:0 < n) (ht:P.underlying t=some (.slice e)) (z:Value) (hz:∀ w,(zeroValue e).run P w=.ok z w) (hzs:z.cells.size=sz) (hz1:∀ i,i < sz→(z.cells[i]!).oneCell'=true) (hsz:0 < sz)
    (cur:List Value) (t':TypeId) (hb:w.heap[g]?=some (.cells cur.toArray t' (0,0))) (hl:o + n * sz ≤ cur.length)
    (h:∀ w' vs,vs.length=n * sz→w'.heap[g]?=some (.cells (spl cur o vs).toArray t' (0,0))→w.grownBy w' (some g)→wpList P ops Q rest (a.put op.dst (.tuple #[])) w'):wpList P ops Q (op::rest) a w:=by
 refine wpList_plain hgd fun K hK=>?_
 have hzl:(Builtin.zeroCells z.cells n).toList.length=n * sz:=by simp [Builtin.zeroCells,hzs]
 have h1:∀ u ∈ (Builtin.zeroCells z.cells n).toList,u.oneCell'=true:=fun u hu=>by
  simp only [Builtin.zeroCells,Array.toList_map,List.mem_map] at hu
  obtain ⟨i,_,rfl⟩:=hu
  exact hz1 _ (by rw [hzs];exact Nat.mod_lt _ hsz)
 have hst:=run_storeCells_at P g o t' (Builtin.zeroCells z.cells n).toList 0 cur.toArray w hb (by rw [hzl];simpa using hl) h1
 have hrun:(Builtin.clear_ #[t] op.type #[.slice (some ⟨g,o,none⟩) n c]).run P w=.ok (.tuple #[]) (w.setRow g (spl cur o (Builtin.zeroCells z.cells n).toList).toArray):=by
  obtain ⟨m,rfl⟩:∃ m,n=m + 1:=⟨n - 1,by omega⟩
  simp only [Nat.add_zero] at hst
  simp [Builtin.clear_,run_underlying ht,hz,hst,spl]
 unfold Oper.wp execOp
 simp only [ho,resolve,invoke,builtin,Sem.run_bind,Sem.run_pure,Result.andThen_ok,List.map_toArray,List.map_cons,List.map_nil,hx,hrun]
 refine hK _ _ (h _ _ hzl ?_ ?_)
 ·exact setRow_heap w g _ _ t' (0,0) hb
 ·exact ⟨rfl,rfl,rfl,by simp,fun k _ hk=>setRow_other w g k _ (fun e=>hk (by rw [e]))⟩
end
theorem closure_any (p:Nat × List UInt8) (G k:Nat) (w:World) (hc:w.cell? ⟨G,0,none⟩=some (.int .i64 (k:Int))) (hG:G < w.heap.size) :
    Calls Tryz.prog 77 #[.agg (wcell p).toArray,.pointer (some ⟨G,0,none⟩)] w fun e w'=>e=.returned (.bool (decide (p.1=k)))∧Below w.heap.size w w':=by
 obtain ⟨i,x⟩:=p
 show Calls Tryz.prog 77 #[.agg (Value.int .i64 (i:Int)::x.map bv).toArray,.pointer (some ⟨G,0,none⟩)] w fun e w'=>e=.returned (.bool (decide (i=k)))∧Below w.heap.size w w'
 have hb:=below1 w (.cells (Value.int .i64 (i:Int)::x.map bv).toArray 99)
 have hne:G ≠ w.heap.size:=by omega
 have Hd:Hid (((i:Int) == (k:Int))=decide (i=k)):=by
  show _=_
  by_cases h:i=k
  ·subst h;simp
  ·rw [decide_eq_false h,beq_eq_false_iff_ne];omega
 go_enter Tryz.func77,Tryz.ntmps77
 go_wp2
 go_ret
 exact ⟨by rw [← Hd.out];rfl,hb⟩
def FirstI (ps:List (Nat × List UInt8)) (k:Nat) (r:Int):Prop :=
 (r=-1∧∀ p ∈ ps,p.1 ≠ k)∨(∃ i:Nat,r=(i:Int)∧i < ps.length∧(ps.getD i (0,[])).1=k∧∀ p ∈ ps.take i,p.1 ≠ k)
theorem take_getD_succ {ps:List (Nat × List UInt8)} {i:Nat} (hi:i < ps.length):ps.take (i + 1)=ps.take i ++ [ps.getD i (0,[])]:=by
 rw [List.take_succ_eq_append_getElem hi];simp [hi]
set_option maxHeartbeats 800000 in
theorem indexf_any (pv:Value) (B:Nat) (ps:List (Nat × List UInt8)) (G k:Nat) (w:World) (h:w.ownsRow B 99 33 pv ps.length (wcells ps)) (hok:WOk ps) (hps:ps.length ≤ 2000000) (hc:w.cell? ⟨G,0,none⟩=some (.int .i64 (k:Int))) (hG:G < w.heap.size) :
    Calls Tryz.prog 98 #[pv,.func (.func 77) #[] #[.pointer (some ⟨G,0,none⟩)]] w fun e w'=>∃ r:Int,e=.returned (.int .i64 r)∧FirstI ps k r∧Below w.heap.size w w':=by
 have Hown:=Lib.hid h
 have Hok:=Lib.hid hok
 obtain ⟨P,pc,rfl,hpc,Hpg⟩:=own_form h
 clear h hok
 go_enter Tryz.func98,Tryz.ntmps98
 go_wp2
 go_loopw [8] (fun i wr=>∃ j:Nat,j ≤ ps.length∧i=.int .i64 j∧(∀ p ∈ ps.take j,p.1 ≠ k)∧Below w.heap.size w wr) (fun i _=>ps.length - (intOf i).toNat)
 case atStart=>exact ⟨0,Nat.zero_le _,rfl,fun p hp=>by simp at hp,Below.refl _ _⟩
 case round =>
  obtain ⟨j,hj,rfl,hall,hbr⟩:=hrel
  have Hall:=Lib.hid hall
  clear hall
  by_cases hlt:j < ps.length
  ·obtain ⟨g,rfl,hBg⟩:=Hpg (by omega)
   have hglt:g < w.heap.size:=(Hown.out.lt g rfl).2
   have hrp:=range_heap (range_pend Hown.out Hok.out (i:=j) hlt) (hbr.block g hglt)
   have hpm:ps.getD j (0,[]) ∈ ps:=by simp [hlt]
   have Hwl:=Lib.hid (wcell_len (Hok.out _ hpm).2)
   have Hts:=Lib.hid (take_getD_succ hlt)
   have Hget:Hid ((ps.getD j (0,[]))=ps.getD j (0,[])):=rfl
   have hcr:wr.cell? ⟨G,0,none⟩=some (.int .i64 (k:Int)):=(hbr.cell (p:=⟨G,0,none⟩) hG).trans hc
   have CL:=Lib.hid (closure_any (ps.getD j (0,[])) G k wr hcr (Nat.lt_of_lt_of_le hG hbr.size))
   generalize hp:ps.getD j (0,[])=p at hrp Hwl Hts CL
   have Hp:=Lib.hid hp
   have Hrp:=Lib.hid hrp
   have k0:(0:Int) ≤ (j:Int):=by omega
   have k1:(j:Int) < (ps.length:Int):=by omega
   clear hrp hp hpm hcr Hget
   by_cases hpk:p.1=k
   ·rw [decide_eq_true hpk] at CL
    have Hpk:=Lib.hid hpk
    clear hpk
    go_wp2_with (first
     |(refine wpList_load_mid rfl 99 _ (by rfl) g (j * 33) (by rfl) (wcell p) _ Hrp.out Tryz.underlying99 rfl (by rw [Hwl.out];exact (by kernel_rfl:(Tryz.prog.info? 99).map (·.size)=some 33)) ?_)
     |(go_at_call 77;refine CL.out.mono ?_;rintro e w1 ⟨rfl,hb1⟩))
    go_ret
    exact ⟨_,rfl,.inr ⟨j,rfl,hlt,by rw [Hp.out];exact Hpk.out,Hall.out⟩,hbr.trans (hb1.mono hbr.size)⟩
   ·rw [decide_eq_false hpk] at CL
    have Hpk:=Lib.hid hpk
    clear hpk
    go_wp2_with (first
     |(refine wpList_load_mid rfl 99 _ (by rfl) g (j * 33) (by rfl) (wcell p) _ Hrp.out Tryz.underlying99 rfl (by rw [Hwl.out];exact (by kernel_rfl:(Tryz.prog.info? 99).map (·.size)=some 33)) ?_)
     |(go_at_call 77;refine CL.out.mono ?_;rintro e w1 ⟨rfl,hb1⟩))
    go_roundw
    case rel=>exact ⟨j + 1,by omega,by go_num,by rw [Hts.out];intro q hq;rcases List.mem_append.1 hq with h1 | h1;exact Hall.out q h1;rw [List.mem_singleton.1 h1];exact Hpk.out,hbr.trans (hb1.mono hbr.size)⟩
    case measure=>simp [intOf];omega
  ·obtain rfl:j=ps.length:=by omega
   go_wp2
   go_ret
   exact ⟨-1,rfl,.inl ⟨rfl,by have:=Hall.out;rwa [List.take_length] at this⟩,hbr⟩
end Go.Proofs.YtldfoadildaljaaGreat
end
section
set_option maxRecDepth 8000
namespace Go.Proofs.YtldfoadildaljaaGreat
open Go.RowKit
theorem zw_one:∀ i,i < 33→((Value.agg (Value.int .i64 0::List.replicate 32 (Value.int .u8 0)).toArray).cells[i]!).oneCell'=true:=by decide
def keepW (k:Nat) (ps:List (Nat × List UInt8)):List (Nat × List UInt8):=ps.filter fun p=>decide (p.1 ≠ k)
theorem keepW_all {k:Nat} {ps:List (Nat × List UInt8)} (h:∀ p ∈ ps,p.1 ≠ k):keepW k ps=ps:=List.filter_eq_self.2 fun p hp=>by simpa using h p hp
theorem keepW_snoc_yes {k:Nat} {ps:List (Nat × List UInt8)} {p:Nat × List UInt8} (h:p.1 ≠ k):keepW k (ps ++ [p])=keepW k ps ++ [p]:=by simp [keepW,h]
theorem keepW_snoc_no {k:Nat} {ps:List (Nat × List UInt8)} {p:Nat × List UInt8} (h:p.1=k):keepW k (ps ++ [p])=keepW k ps:=by simp [keepW,h]
theorem keepW_ok {k:Nat} {ps:List (Nat × List UInt8)} (h:WOk ps):WOk (keepW k ps):=h.filter _
theorem wcells_append (ps qs:List (Nat × List UInt8)):wcells (ps ++ qs)=wcells ps ++ wcells qs:=by simp [wcells]
theorem wcells_drop {ps:List (Nat × List UInt8)} {j:Nat} (hj:j < ps.length):wcells (ps.drop j)=wcell (ps.getD j (0,[])) ++ wcells (ps.drop (j + 1)):=by
 have e:ps.getD j (0,[])=ps[j]:=by simp [hj]
 rw [e,List.drop_eq_getElem_cons hj]
 rfl
def delCells (k:Nat) (ps:List (Nat × List UInt8)) (Z:List Value) (j:Nat) (M:List Value):List Value:=wcells (keepW k (ps.take j)) ++ M ++ wcells (ps.drop j) ++ Z
theorem range_list {w:World} {g:Nat} {A X C:List Value} {t:TypeId} (hb:w.heap[g]?=some (.cells (A ++ X ++ C).toArray t (0,0))) {o:Nat} (ho:A.length=o):w.rangeAt g o X:=fun j v hj=>by
 have hl:j < X.length:=(List.getElem?_eq_some_iff.1 hj).1
 rw [cell_of_row w g _ _ t (0,0) hb,List.getElem?_toArray,List.append_assoc,List.getElem?_append_right (by omega),ho,Nat.add_sub_cancel_left,List.getElem?_append_left hl]
 exact hj
theorem own_split {w:World} {B g n cap:Nat} {e:TypeId} {size:Nat} {xs:List Value} (h:w.ownsRow B e size (.slice (some ⟨g,0,none⟩) n cap) n xs):∃ Z,w.heap[g]?=some (.cells (xs ++ Z).toArray e (0,0))∧(xs ++ Z).length=cap * size∧n ≤ cap∧cap ≤ maxLen:=by
 rcases h.2 with ⟨h1,_⟩ | ⟨g',cap',cur,h1,h2,h3,h4,h5,h6,h7⟩
 ·cases h1
 ·injection h1 with h8 _ h9
  injection h8 with h8
  injection h8 with h8 _ _
  subst h8 h9
  refine ⟨cur.toList.drop (n * size),?_,?_,h4,h5⟩
  ·rw [← h7,List.take_append_drop];exact h3
  ·rw [← h7,List.take_append_drop,Array.length_toList];exact h6
theorem own_join {w:World} {B g n cap:Nat} {e:TypeId} {size:Nat} {xs Z:List Value} (hx:xs.length=n * size) (hB:B ≤ g) (hg:w.heap[g]?=some (.cells (xs ++ Z).toArray e (0,0))) (hl:(xs ++ Z).length=cap * size) (hn:n ≤ cap) (hm:cap ≤ maxLen) :
    w.ownsRow B e size (.slice (some ⟨g,0,none⟩) n cap) n xs :=
 ⟨hx,.inr ⟨g,cap,_,rfl,hB,hg,hn,hm,by simpa using hl,by rw [List.toList_toArray,← hx,List.take_left]⟩⟩
set_option maxHeartbeats 1600000 in
theorem deletef_any (pv:Value) (B:Nat) (ps:List (Nat × List UInt8)) (G k:Nat) (w:World) (h:w.ownsRow B 99 33 pv ps.length (wcells ps)) (hok:WOk ps) (hps:ps.length ≤ 2000000) (hc:w.cell? ⟨G,0,none⟩=some (.int .i64 (k:Int))) (hG:G < w.heap.size) (hGp:pv.ownBlock ≠ some G) :
    Calls Tryz.prog 76 #[pv,.func (.func 77) #[] #[.pointer (some ⟨G,0,none⟩)]] w fun e w'=>∃ v,e=.returned v∧w'.ownsRow B 99 33 v (keepW k ps).length (wcells (keepW k ps))∧Chg (fun j=>pv.ownBlock=some j) w w'∧∀ j,v.ownBlock=some j→pv.ownBlock=some j:=by
 have CI:=Lib.hid (indexf_any pv B ps G k w h hok hps hc hG)
 have Hown:=Lib.hid h
 have Hok:=Lib.hid hok
 obtain ⟨P,pc,rfl,hpc,Hpg⟩:=own_form h
 clear h hok
 go_enter Tryz.func76,Tryz.ntmps76
 go_wp2_with fail
 refine CI.out.mono ?_
 rintro e w1 ⟨r,rfl,hfi,hb1⟩
 rcases hfi with ⟨rfl,hall⟩ | ⟨i0,rfl,hi0,hik,hall⟩
 ·have Hall:=Lib.hid (keepW_all hall)
  clear hall
  go_wp2
  go_ret
  exact ⟨_,rfl,by rw [Hall.out];exact own_heap Hown.out fun j hj=>hb1.block j (Hown.out.lt j hj).2,(chg_below _ hb1),fun j hj=>hj⟩
 ·obtain ⟨g,rfl,hBg⟩:=Hpg (by omega)
  have hGg:G ≠ g:=fun e=>hGp (by rw [e];rfl)
  have hglt:g < w.heap.size:=(Hown.out.lt g rfl).2
  have hown1:w1.ownsRow B 99 33 (.slice (some ⟨g,0,none⟩) ps.length pc) ps.length (wcells ps):=own_heap Hown.out fun j hj=>hb1.block j (Hown.out.lt j hj).2
  obtain ⟨Z,hgZ,hlZ,_,hmax⟩:=own_split hown1
  have Hk0:=Lib.hid (keepW_all hall)
  have hts:=take_getD_succ hi0
  have Hk1:=Lib.hid (show keepW k (ps.take (i0 + 1))=ps.take i0 by rw [hts,keepW_snoc_no hik,Hk0.out])
  have hpm0:ps.getD i0 (0,[]) ∈ ps:=by simp [hi0]
  have Hg0:=Lib.hid (show w1.heap[g]?=some (.cells (delCells k ps Z (i0 + 1) (wcell (ps.getD i0 (0,[])))).toArray 99 (0,0)) by
   rw [hgZ,delCells,Hk1.out,← wcells_snoc,← hts,← wcells_append,List.take_append_drop])
  have Hl0:=Lib.hid (wcell_len (Hok.out _ hpm0).2)
  have hc1:w1.cell? ⟨G,0,none⟩=some (.int .i64 (k:Int)):=(hb1.cell (p:=⟨G,0,none⟩) hG).trans hc
  have HlZ:=Lib.hid hlZ
  have hn1:IntKind.i64.wrap ((i0:Int) + 1)=(i0:Int) + 1:=by rw [IntKind.wrap_i64];omega
  have hbq:((i0:Int) == -1)=false:=by rw [beq_eq_false_iff_ne];omega
  clear hgZ hlZ hall hts hpm0 hik hown1
  generalize wcell (ps.getD i0 (0,[]))=M0 at Hg0 Hl0
  go_wp2
  go_loopw [5,6] (fun si sj wr=>∃ (i j:Nat) (M:List Value),j ≤ ps.length∧i + 1 ≤ j∧si=.int .i64 i∧sj=.int .i64 j∧(keepW k (ps.take j)).length=i∧M.length=(j - i) * 33∧wr.heap[g]?=some (.cells (delCells k ps Z j M).toArray 99 (0,0))∧Chg (fun x=>x=g) w1 wr) (fun _ sj _=>ps.length - (intOf sj).toNat)
  case atStart=>exact ⟨i0,i0 + 1,M0,by omega,by omega,rfl,by go_num,by rw [Hk1.out,List.length_take];omega,by rw [Hl0.out];omega,Hg0.out,Chg.refl _ _⟩
  case round =>
   obtain ⟨i,j,M,hj,hij,rfl,rfl,hfl,hMl,hbg,hch⟩:=hrel
   have Hfl:=Lib.hid hfl
   have Hch:=Lib.hid hch
   have i0':(0:Int) ≤ (i:Int):=by omega
   have i1':(i:Int) < (ps.length:Int):=by omega
   have hglr:g < wr.heap.size:=(Array.getElem?_eq_some_iff.1 hbg).1
   have HFl:=Lib.hid (show (wcells (keepW k (ps.take j))).length=i * 33 by rw [wcells_len (keepW_ok (fun q hq=>Hok.out q (List.mem_of_mem_take hq))),hfl])
   clear hfl hch
   by_cases hlt:j < ps.length
   ·have hpm:ps.getD j (0,[]) ∈ ps:=by simp [hlt]
    have Hwl:=Lib.hid (wcell_len (Hok.out _ hpm).2)
    have Hts:=Lib.hid (take_getD_succ hlt)
    have Hone:=Lib.hid (show ∀ u ∈ wcell (ps.getD j (0,[])),u.oneCell'=true from fun u hu=>by
     rcases List.mem_cons.1 hu with rfl | hu
     ·rfl
     ·exact map_bv_one u hu)
    have Hbg:=Lib.hid (show wr.heap[g]?=some (.cells (wcells (keepW k (ps.take j)) ++ M ++ wcell (ps.getD j (0,[])) ++ (wcells (ps.drop (j + 1)) ++ Z)).toArray 99 (0,0)) by
     rw [hbg,delCells,wcells_drop hlt];simp)
    have HE:=Lib.hid (show ∀ (F:List (Nat × List UInt8)) (M':List Value),keepW k (ps.take (j + 1))=F→delCells k ps Z (j + 1) M'=wcells F ++ M' ++ wcells (ps.drop (j + 1)) ++ Z from fun F M' e=>by rw [← e];rfl)
    have hcr:wr.cell? ⟨G,0,none⟩=some (.int .i64 (k:Int)):=(World.cell?_of_block (a:=⟨G,0,none⟩) (Hch.out.block G (Nat.lt_of_lt_of_le hG hb1.size) hGg)).trans hc1
    have hGr:G < wr.heap.size:=Nat.lt_of_lt_of_le (Nat.lt_of_lt_of_le hG hb1.size) Hch.out.size
    generalize ps.getD j (0,[])=p at Hwl Hts Hone Hbg
    have Hkp:=Lib.hid (fun (h:p.1 ≠ k)=>(by rw [Hts.out];exact keepW_snoc_yes h:keepW k (ps.take (j + 1))=keepW k (ps.take j) ++ [p]))
    have Hkn:=Lib.hid (fun (h:p.1=k)=>(by rw [Hts.out];exact keepW_snoc_no h:keepW k (ps.take (j + 1))=keepW k (ps.take j)))
    generalize keepW k (ps.take j)=F at HFl Hfl Hbg Hkp Hkn
    have Hrp:=Lib.hid (range_list Hbg.out (show (wcells F ++ M).length=j * 33 by rw [List.length_append,HFl.out,hMl];omega))
    have CL:=Lib.hid (fun W hc hG=>closure_any p G k W hc hG)
    have Hcr:=Lib.hid hcr
    have k0:(0:Int) ≤ (j:Int):=by omega
    have k1:(j:Int) < (ps.length:Int):=by omega
    have hn2:IntKind.i64.wrap ((j:Int) + 1)=(j:Int) + 1:=by rw [IntKind.wrap_i64];omega
    have hn3:IntKind.i64.wrap ((i:Int) + 1)=(i:Int) + 1:=by rw [IntKind.wrap_i64];omega
    clear hbg hpm hcr hn1
    by_cases hpk:p.1=k
    ·have Hks:=Lib.hid (Hkn.out hpk)
     rw [decide_eq_true hpk] at CL
     clear hpk Hkp Hkn
     go_wp2_with (first
      |(refine wpList_load_mid rfl 99 _ (by rfl) g (j * 33) (by rfl) (wcell p) _ Hrp.out Tryz.underlying99 rfl (by rw [Hwl.out];exact (by kernel_rfl:(Tryz.prog.info? 99).map (·.size)=some 33)) ?_)
      |(refine wpList_store_blk rfl 99 _ _ (by rfl) wr.heap.size 0 (.agg (wcell p).toArray) (by rfl) (by rfl) (Value.int .i64 0::List.replicate 32 (Value.int .u8 0)) 99 (heap_alloc_new _ _) (wcell p) (by rfl) 33 Hwl.out (by kernel_rfl) (by decide) Hone.out (wcell p) (spl_all (by rw [Hwl.out];rfl)) ?_
        intro w2 h2 hg2
        have hB2:Below wr.heap.size wr w2:=(below1 wr _).grown hg2 (by simp) (fun x hx=>by injection hx with hx;omega)
        have HB2:=Lib.hid hB2
        have Hr2:=Lib.hid (show w2.rangeAt wr.heap.size 0 (wcell p) from fun x v hx=>by rw [Nat.zero_add,cell_of_row _ _ _ _ _ _ h2];simpa using hx)
        have HG2:=Lib.hid ((hB2.cell (p:=⟨G,0,none⟩) hGr).trans Hcr.out)
        have Hg2lt:=Lib.hid (Nat.lt_of_lt_of_le hglr hB2.size)
        have HGlt:=Lib.hid (Nat.lt_of_lt_of_le hGr hB2.size)
        have Hg2:=Lib.hid ((hB2.block g hglr).trans Hbg.out)
        have Hslt:=Lib.hid ((Array.getElem?_eq_some_iff.1 h2).1)
        clear h2 hg2 hB2)
      |(refine wpList_load_mid rfl 99 _ (by rfl) wr.heap.size 0 (by rfl) (wcell p) _ Hr2.out Tryz.underlying99 rfl (by rw [Hwl.out];exact (by kernel_rfl:(Tryz.prog.info? 99).map (·.size)=some 33)) ?_)
      |(go_at_call 77
        refine (CL.out w2 HG2.out HGlt.out).mono ?_
        rintro e w3 ⟨rfl,hb3⟩))
     go_roundw
     case rel=>exact ⟨i,j + 1,M ++ wcell p,by omega,by omega,rfl,by go_num,by rw [Hks.out];exact Hfl.out,by rw [List.length_append,hMl,Hwl.out];omega,
      by rw [HE.out _ _ Hks.out,hb3.block g Hg2lt.out,Hg2.out];simp,((Hch.out.trans (chg_below (fun x=>x=g) HB2.out) fun _ _ e=>e).trans (chg_below (fun x=>x=g) hb3) fun _ _ e=>e)⟩
     case measure=>simp [intOf];omega
    ·have Hks:=Lib.hid (Hkp.out hpk)
     rw [decide_eq_false hpk] at CL
     clear hpk Hkp Hkn
     have HM1:=Lib.hid (show (M.take 33).length=33 by rw [List.length_take,hMl];omega)
     have HM2:=Lib.hid (show (M.drop 33).length=(j - i) * 33 - 33 by rw [List.length_drop,hMl])
     have HM:=Lib.hid (List.take_append_drop 33 M).symm
     go_wp2_with (first
      |(refine wpList_load_mid rfl 99 _ (by rfl) g (j * 33) (by rfl) (wcell p) _ Hrp.out Tryz.underlying99 rfl (by rw [Hwl.out];exact (by kernel_rfl:(Tryz.prog.info? 99).map (·.size)=some 33)) ?_)
      |(refine wpList_store_blk rfl 99 _ _ (by rfl) wr.heap.size 0 (.agg (wcell p).toArray) (by rfl) (by rfl) (Value.int .i64 0::List.replicate 32 (Value.int .u8 0)) 99 (heap_alloc_new _ _) (wcell p) (by rfl) 33 Hwl.out (by kernel_rfl) (by decide) Hone.out (wcell p) (spl_all (by rw [Hwl.out];rfl)) ?_
        intro w2 h2 hg2
        have hB2:Below wr.heap.size wr w2:=(below1 wr _).grown hg2 (by simp) (fun x hx=>by injection hx with hx;omega)
        have HB2:=Lib.hid hB2
        have Hr2:=Lib.hid (show w2.rangeAt wr.heap.size 0 (wcell p) from fun x v hx=>by rw [Nat.zero_add,cell_of_row _ _ _ _ _ _ h2];simpa using hx)
        have HG2:=Lib.hid ((hB2.cell (p:=⟨G,0,none⟩) hGr).trans Hcr.out)
        have Hg2lt:=Lib.hid (Nat.lt_of_lt_of_le hglr hB2.size)
        have HGlt:=Lib.hid (Nat.lt_of_lt_of_le hGr hB2.size)
        have Hg2:=Lib.hid ((hB2.block g hglr).trans Hbg.out)
        have Hslt:=Lib.hid ((Array.getElem?_eq_some_iff.1 h2).1)
        clear h2 hg2 hB2)
      |(refine wpList_load_mid rfl 99 _ (by rfl) wr.heap.size 0 (by rfl) (wcell p) _ Hr2.out Tryz.underlying99 rfl (by rw [Hwl.out];exact (by kernel_rfl:(Tryz.prog.info? 99).map (·.size)=some 33)) ?_)
      |(go_at_call 77
        refine (CL.out w2 HG2.out HGlt.out).mono ?_
        rintro e w3 ⟨rfl,hb3⟩
        have HB3:=Lib.hid hb3
        have Hr3:=Lib.hid (range_heap Hr2.out (hb3.block _ Hslt.out))
        have Hg3:=Lib.hid (show w3.heap[g]?=some (.cells (wcells F ++ M.take 33 ++ (M.drop 33 ++ wcell p ++ (wcells (ps.drop (j + 1)) ++ Z))).toArray 99 (0,0)) by
         rw [hb3.block g Hg2lt.out,Hg2.out]
         have e:=HM.out
         generalize M.take 33=Ma at e
         generalize M.drop 33=Mb at e
         rw [e];simp)
        clear hb3)
      |(refine wpList_load_mid rfl 99 _ (by rfl) wr.heap.size 0 (by rfl) (wcell p) _ Hr3.out Tryz.underlying99 rfl (by rw [Hwl.out];exact (by kernel_rfl:(Tryz.prog.info? 99).map (·.size)=some 33)) ?_)
      |(refine wpList_store_blk rfl 99 _ _ (by rfl) g (i * 33) (.agg (wcell p).toArray) (by rfl) (by rfl) (wcells F ++ M.take 33 ++ (M.drop 33 ++ wcell p ++ (wcells (ps.drop (j + 1)) ++ Z))) 99 Hg3.out (wcell p) (by rfl) 33 Hwl.out (by kernel_rfl) (by rw [List.length_append,List.length_append,HFl.out,HM1.out];omega) Hone.out _ (spl_mid HFl.out (by rw [HM1.out,Hwl.out])) ?_
        intro w4 h4 hg4
        have Hb4:=Lib.hid h4
        have Hg4:=Lib.hid hg4
        clear h4 hg4))
     go_roundw
     case rel=>exact ⟨i + 1,j + 1,M.drop 33 ++ wcell p,by omega,by omega,by go_num,by go_num,by rw [Hks.out,List.length_append,Hfl.out];rfl,by rw [List.length_append,HM2.out,Hwl.out];omega,
      by rw [HE.out _ _ Hks.out,Hb4.out,wcells_snoc];simp,(((Hch.out.trans (chg_below (fun x=>x=g) HB2.out) fun _ _ e=>e).trans (chg_below (fun x=>x=g) HB3.out) fun _ _ e=>e).trans (chg_grown Hg4.out) fun x _ e=>by injection e with e;exact e.symm)⟩
     case measure=>simp [intOf];omega
   ·obtain rfl:j=ps.length:=by omega
    rw [List.take_length] at Hfl HFl
    have Hbg:=Lib.hid (show wr.heap[g]?=some (.cells (wcells (keepW k ps) ++ (M ++ Z)).toArray 99 (0,0)) by
     rw [hbg,delCells,List.take_length,List.drop_length];simp [wcells])
    have hMZ:=HlZ.out
    rw [List.length_append,wcells_len Hok.out] at hMZ
    have HLa:=Lib.hid (show (wcells (keepW k ps) ++ (M ++ Z)).length=pc * 33 by rw [List.length_append,HFl.out,List.length_append,hMl];omega)
    have hic:(i:Int) ≤ (pc:Int):=by omega
    have hil:(i:Int) ≤ (ps.length:Int):=by omega
    have hine:¬ pc=i:=by omega
    have hz:∀ w,(zeroValue 99).run Tryz.prog w=.ok (.agg (Value.int .i64 0::List.replicate 32 (Value.int .u8 0)).toArray) w:=fun w=>(Tryz.zeroValue99 w).trans rfl
    have Hz:=Lib.hid hz
    clear hbg hMZ hz
    go_wp2_with (refine wpList_clear_blk rfl _ 95 99 rfl g (i * 33) (ps.length - i) (pc - i) 33 (by rfl) (by omega) Tryz.underlying95 (.agg (Value.int .i64 0::List.replicate 32 (Value.int .u8 0)).toArray) Hz.out rfl zw_one (by omega) (wcells (keepW k ps) ++ (M ++ Z)) 99 Hbg.out (by rw [HLa.out];have:(i + (ps.length - i)) * 33 ≤ pc * 33:=Nat.mul_le_mul_right _ (by omega);omega) ?_;intro w5 vs hvl h5 hg5)
    go_ret
    have e5:spl (wcells (keepW k ps) ++ (M ++ Z)) (i * 33) vs=wcells (keepW k ps) ++ (vs ++ (M ++ Z).drop vs.length):=by
     unfold spl
     rw [← HFl.out,List.take_left,List.append_assoc]
     congr 2
     rw [List.drop_append,List.drop_of_length_le (by omega),List.nil_append]
     congr 1
     omega
    rw [e5] at h5
    refine ⟨_,rfl,?_,((chg_below (fun x=>(Value.slice (some ⟨g,0,none⟩) ps.length pc).ownBlock=some x) hb1).trans Hch.out fun x _ e=>by rw [e];rfl).trans (chg_grown hg5) fun x _ e=>e,fun x hx=>hx⟩
    rw [Hfl.out]
    exact own_join (by rw [HFl.out]) hBg h5 (by rw [← e5,spl_len (by rw [HLa.out,hvl];have:(i + (ps.length - i)) * 33 ≤ pc * 33:=Nat.mul_le_mul_right _ (by omega);omega),HLa.out]) (by omega) hmax
end Go.Proofs.YtldfoadildaljaaGreat
end
