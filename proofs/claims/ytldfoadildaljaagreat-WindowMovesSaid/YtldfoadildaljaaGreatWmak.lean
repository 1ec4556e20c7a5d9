/- Texts put together: DskWrite, DskRest, DskRow, DskAll, DskClone, DskCrash. -/
import Derived.Test.YtldfoadildaljaaGreatWmaj
import Derived.Deep.DrawnRows
import Derived.Test.YtldfoadildaljaaGreatWmah
import Derived.Test.YtldfoadildaljaaGreatWmaa
import Derived.Deep.WholeRow
section
set_option maxRecDepth 8000
namespace Go.Proofs.YtldfoadildaljaaGreat
open Go.RowKit
theorem size_pw:(Tryz.prog.info? 99).map (fun i=>(i.zero,i.size,i.bytes))=some (some (.agg (Value.int .i64 0::List.replicate 32 (Value.int .u8 0)).toArray),33,40):=by kernel_rfl
theorem dsk_write_end {w0 w1 w2 w3 w4:World} {B b:Nat} {pv:Value} {D:Dsk} {k:Nat} {x:List UInt8} {o:Obj} {g cap:Nat} (h0:DskAt w0 B b pv D) (hk:k < 52) (hx:x.length=32) (hB1:Below w0.heap.size w0 w1) (hg2:w1.grownBy w2 (some b))
    (hg3:(w2.drew.alloc o).grownBy w3 pv.ownBlock) (hat:pv.ownBlock=some g∨g=w2.heap.size + 1)
    (hown3:w3.ownsRow B 99 33 (.slice (some ⟨g,0,none⟩) (D.ps.length + 1) cap) (D.ps.length + 1) (wcells D.ps ++ wcell (k,x)))
    (hb4:w4.heap[b]?=some (.cells (dcells D.S (putAt D.now k x) (.slice (some ⟨g,0,none⟩) (D.ps.length + 1) cap) D.f).toArray 97 (0,0))) (hg4:w3.grownBy w4 (some b)) :
    DskAt w4 B b (.slice (some ⟨g,0,none⟩) (D.ps.length + 1) cap) (D.write k x)∧Chg (DF b pv) w0 w4∧NewOr w0 pv (.slice (some ⟨g,0,none⟩) (D.ps.length + 1) cap):=by
 have hblt:=h0.lt
 have hs1:=hB1.size
 have hs2:=hg2.size
 have hgb:g ≠ b:=by
  rcases hat with h | h
  ·intro e;subst e;exact h0.ne h
  ·omega
 generalize hpv:Value.slice (some ⟨g,0,none⟩) (D.ps.length + 1) cap=pv' at hown3 hb4 ⊢
 have hob:pv'.ownBlock=some g:=by rw [← hpv];rfl
 refine ⟨⟨?_,?_,h0.le,?_,h0.ok.write hk hx⟩,?_,?_⟩
 ·rw [Dsk.write_now];exact hb4
 ·have:(D.write k x).ps.length=D.ps.length + 1:=by simp [Dsk.write]
  rw [this,show wcells (D.write k x).ps=wcells D.ps ++ wcell (k,x) from wcells_snoc _ _]
  exact own_heap hown3 fun j hj=>by
   rw [hob] at hj;injection hj with hj;subst hj
   exact hg4.block _ (hown3.lt _ hob).2 (by intro e;injection e with e;exact hgb e)
 ·rw [hob];intro e;injection e with e;exact hgb e
 ·have c1:Chg (DF b pv) w0 w2:=(chg_below _ hB1).trans (chg_grown hg2) fun i _ e=>.inl (by injection e with e;exact e.symm)
  have c2:Chg (DF b pv) w0 w3:=((c1.drewN 1).alloc o).trans (chg_grown hg3) fun i _ e=>.inr e
  exact c2.trans (chg_grown hg4) fun i _ e=>.inl (by injection e with e;exact e.symm)
 ·intro j hj
  rw [hob] at hj;injection hj with hj;subst hj
  rcases hat with h | h
  ·exact .inl h
  ·exact .inr (by omega)
section
attribute [local go_sem ↓] wp_build_write exec_build_write wp_built_slice
set_option maxHeartbeats 800000 in
theorem dsk_write_ok (B b:Nat) (pv:Value) (D:Dsk) (k:Nat) (x:List UInt8) (A:Option Addr) (c:Nat) (w:World) (h:DskAt w B b pv D) (hf:D.f=false) (hk:k < 52) (hx:x.length=32) (hr:RdB w w.heap.size A x) (hps:D.ps.length ≤ 2000000) :
    Calls Tryz.prog 92 #[.pointer (some ⟨b,0,none⟩),.int .i64 (k:Int),.slice A 32 c] w fun e w'=>∃ pv',e=.returned (.int .i64 0)∧DskAt w' B b pv' (D.write k x)∧Chg (DF b pv) w w'∧NewOr w pv pv':=by
 have C:=Lib.hid (dsk_take_any B b pv D w h (k:Int) A 32 c (by omega) (by omega))
 have hE:takeE D.f (k:Int) 32=0:=by
  have:reachE D.f (k:Int)=0:=by unfold reachE;rw [hf,if_neg (by simp),if_neg (by omega)]
  unfold takeE;rw [this];rfl
 rw [hE] at C
 obtain ⟨g,off,rfl,hg,hcells⟩:=hr.2 (by omega)
 have hra:w.rangeAt g off (x.map bv):=fun j v hj=>by
  obtain ⟨hj1,rfl⟩:=List.getElem?_eq_some_iff.1 hj
  have hj2:j < x.length:=by simpa using hj1
  rw [hcells j hj2]
  simp [bv,hj2]
 have Hx:=Lib.hid hx
 have Hra:=Lib.hid hra
 clear hcells hra hr hE hx
 have Hh:=Lib.hid h
 have harr:=arr_at (some ⟨g,off,none⟩) 32 c (Nat.le_refl _)
 have k0:(0:Int) ≤ (k:Int):=by omega
 have k1:(k:Int) < 52:=by omega
 clear h
 go_enter Tryz.func92,Tryz.ntmps92
 go_wp2_with fail
 refine C.out.mono ?_
 rintro e w' ⟨rfl,rfl⟩
 go_wp2_with (first
  |(refine wpList_load_mid rfl 93 _ (by rfl) g off (by rfl) (x.map bv) _ Hra.out Tryz.underlying93 rfl (by rw [List.length_map,Hx.out];exact size_sec) ?_)
  |(refine wpList_store_blk rfl 93 _ _ (by rfl) w'.heap.size 0 (.agg (x.map bv).toArray) (by rfl) (by rfl) (List.replicate 32 (.int .u8 0)) 93 (heap_alloc_new _ _) (x.map bv) (by rfl) 32 (by rw [List.length_map,Hx.out]) size_sec (by decide) map_bv_one (x.map bv) (spl_all (by rw [List.length_map,Hx.out];rfl)) ?_;intro w1 h1 hg1)
  | fail)
 have hB1:Below w'.heap.size w' w1:=(below1 w' _).grown hg1 (by simp) (fun j hj=>by injection hj with hj;omega)
 clear hg1
 have HD:=Lib.hid (Hh.out.below hB1)
 have hG:w'.heap.size < w1.heap.size:=(Array.getElem?_eq_some_iff.1 h1).1
 have hbG:=Hh.out.lt
 have Hp:=Lib.hid (Hh.out.plt)
 generalize hGe:w'.heap.size=G at h1 hG hbG Hp ⊢
 have HG:=Lib.hid hGe
 clear hGe
 refine wp_region_still_tail 6 (by kernel_rfl) (by kernel_rfl) ?_
 simp only [List.take_succ_cons,List.take_zero,List.drop_succ_cons,List.drop_zero]
 change wpStill _ _ w1.drew _ _ _
 have hra1:w1.drew.rangeAt G 0 (x.map bv):=fun j v hj=>by rw [Nat.zero_add,cell_of_row _ _ _ _ _ _ (show w1.drew.heap[G]?=_ from h1)];simpa using hj
 have Hra1:=Lib.hid hra1
 clear hra1
 still_step
 still_step
 refine wpStill_load_mid rfl 93 _ (by rfl) G 0 (by rfl) (x.map bv) _ Hra1.out Tryz.underlying93 rfl (by rw [List.length_map,Hx.out];exact size_sec) ?_
 repeat still_step
 refine wpStill_nil ?_
 change wpList _ _ _ _ _ w1.drew
 have HS:=Lib.hid Hh.out.ok.S
 have HN:=Lib.hid Hh.out.ok.now
 refine wpList_store_blk rfl 93 _ _ (by rfl) b (1664 + k * 32) (.agg (x.map bv).toArray) (by rfl) (by rfl) (dcells D.S D.now pv D.f) 97 HD.out.blk (x.map bv) (by rfl) 32 (by rw [List.length_map,Hx.out]) size_sec (by rw [dcells_len HS.out HN.out];omega) map_bv_one (dcells D.S (putAt D.now k x) pv D.f) (spl_Nsec HS.out HN.out hk Hx.out) ?_
 intro w2 hb2 hg2
 have hN':(putAt D.now k x).length=1664:=putAt_len HN.out (by omega) Hx.out
 have hc2:=cell_dpv hb2 HS.out hN'
 have hG2:w2.heap[G]?=some (.cells (x.map bv).toArray 93 (0,0)):=(hg2.block G hG (by intro e;injection e with e;omega)).trans h1
 have hra2:w2.drew.rangeAt G 0 (x.map bv):=fun j v hj=>by rw [Nat.zero_add,cell_of_row _ _ _ _ _ _ (show w2.drew.heap[G]?=_ from hG2)];simpa using hj
 have hown2:w2.ownsRow B 99 33 pv D.ps.length (wcells D.ps):=own_chg HD.out.own (chg_grown hg2).ofDrew (fun j hj e=>HD.out.ne (hj.trans e.symm))
 have hsz2:=hg2.size
 have Hhb2:=Lib.hid hb2
 have Hg2:=Lib.hid (show w1.grownBy w2 (some b) from ⟨hg2.os,hg2.tape,hg2.output,hg2.size,hg2.block⟩)
 have Hown2:=Lib.hid hown2
 have Hra2:=Lib.hid hra2
 have hb2lt:b < w2.heap.size:=(Array.getElem?_eq_some_iff.1 hb2).1
 clear hg2 hb2 hG2 hra2 hown2 h1
 go_wp2
 rw [show ∀ (a:Act) (v:Value),a.put none v=a from fun _ _=>rfl]
 have hu:=Tryz.underlying93
 have hi:(Tryz.prog.info? 93).map (·.size)=some (x.map bv).length:=by rw [List.length_map,Hx.out];exact size_sec
 have hx32:=Hx.out
 have HO:=Lib.hid (show ∀ o:Obj,(w2.drew.alloc o).ownsRow B 99 33 pv D.ps.length (wcells D.ps) from fun o=>own_heap Hown2.out fun j hj=>heap_alloc_old w2.drew o (Hown2.out.lt j hj).2)
 obtain ⟨iw,hiw,hzz⟩:=Option.map_eq_some_iff.1 size_pw
 simp only [Prod.mk.injEq] at hzz
 have Hzw:=Lib.hid hzz.1
 have Hsw:=Lib.hid hzz.2.1
 have Hbw:=Lib.hid hzz.2.2
 have Hiw:=Lib.hid hiw
 have HBw:=Lib.hid (show B ≤ w2.heap.size by have:=Hh.out.le;omega)
 have HbD:=Lib.hid (show ∀ o:Obj,(w2.drew.alloc o).heap[b]?=w2.heap[b]? from fun o=>heap_alloc_old w2.drew o hb2lt)
 have Hbs:=Lib.hid (show ∀ o:Obj,b < (w2.drew.alloc o).heap.size from fun o=>by simp;omega)
 have Hbn:=Lib.hid (show some b ≠ pv.ownBlock from fun e=>Hh.out.ne e.symm)
 have HGn:=Lib.hid (show some G ≠ pv.ownBlock from fun e=>by have:=(Hp.out _ e.symm).2;omega)
 have hG2:G < w2.heap.size:=by have:w1.heap.size ≤ w2.heap.size:=hsz2;omega
 have HGD:=Lib.hid (show ∀ o:Obj,(w2.drew.alloc o).heap[G]?=w2.heap[G]? from fun o=>heap_alloc_old w2.drew o hG2)
 have HGs:=Lib.hid (show ∀ o:Obj,G < (w2.drew.alloc o).heap.size from fun o=>by simp;omega)
 have Hne1:=Lib.hid (show ∀ u ∈ (Value.int .i64 (k:Int)::x.map bv),u.oneCell'=true from fun u hu=>by
  rcases List.mem_cons.1 hu with rfl | hu
  ·rfl
  ·exact map_bv_one u hu)
 have Hnl:=Lib.hid (show (Value.int .i64 (k:Int)::x.map bv).length=1 * 33 by simp [Hx.out])
 have hdl:=dcells_len HS.out hN' pv D.f
 have Hdl:=Lib.hid hdl
 clear hzz hiw hdl hc2
 refine wp_region_noPanic (region_take 8 (fun W=>W.heap[b]?=w2.heap[b]?∧W.heap[G]?=w2.heap[G]?) (by kernel_rfl) (by kernel_rfl) (fun _ _ _ _ _ h=>h) ⟨rfl,rfl⟩ ?_)
 simp only [List.take_succ_cons,List.take_zero,List.drop_succ_cons,List.drop_zero]
 refine take_of (v:=.pointer (some ⟨b,0,none⟩)) (by rfl) (fun W hW=>by go_simp) ?_
 refine take_of (v:=.pointer (some ⟨b,0,none⟩)) (by rfl) (fun W hW=>by go_simp) ?_
 simp only [Act.put,List.setIfInBounds_toArray,List.set_cons_zero,List.set_cons_succ]
 refine take_of (v:=.pointer (some ⟨b,0,none⟩)) (by rfl) (fun W hW=>by go_simp) ?_
 simp only [Act.put,List.setIfInBounds_toArray,List.set_cons_zero,List.set_cons_succ]
 refine take_of (v:=.pointer (some ⟨b,3328,none⟩)) (by rfl) (fun W hW=>by go_simp) ?_
 simp only [Act.put,List.setIfInBounds_toArray,List.set_cons_zero,List.set_cons_succ]
 refine take_of (v:=pv) (by rfl) (fun W hW=>by have hc:=cell_dpv (hW.1.trans Hhb2.out) HS.out hN';go_simp) ?_
 refine take_of (v:=.int .i64 (k:Int)) (by rfl) (fun W hW=>by go_simp) ?_
 simp only [Act.put,List.setIfInBounds_toArray,List.set_cons_zero,List.set_cons_succ]
 refine take_mid (by rfl) 93 _ (by rfl) G 0 (by rfl) (x.map bv) _ (fun W hW=>range_heap Hra2.out hW.2) hu rfl hi ?_
 simp only [Act.put,List.setIfInBounds_toArray,List.set_cons_zero,List.set_cons_succ]
 refine take_of (v:=.agg (Value.int .i64 (k:Int)::x.map bv).toArray) (by rfl) (fun W hW=>by go_simp) ?_
 simp only [Act.put,List.setIfInBounds_toArray,List.set_cons_zero,List.set_cons_succ,takesE]
 refine listE_step fun K hK=>?_
 rw [if_pos (by rfl),wp_built_slice (by simp [Act.eval,Value.cells,hx32])]
 refine hK _ _ ⟨HbD.out _,HGD.out _⟩ ?_
 clear hK K
 simp only [Act.put,List.setIfInBounds_toArray,List.set_cons_zero,List.set_cons_succ]
 refine listE_step fun K hK=>?_
 refine step_append_lies _ (by rfl) _ _ _ (by rfl) B 99 iw _ 33 40 Tryz.underlying95 Hiw.out Hzw.out Hsw.out Hbw.out (by rfl) (by omega) pv D.ps.length (wcells D.ps) (by rfl) (HO.out _) ⟨w2.heap.size,0,none⟩ 1 1 (Value.int .i64 (k:Int)::x.map bv) (by rfl) Hnl.out (World.news_of_block (heap_alloc_new w2.drew _)) Hne1.out (by omega) (by unfold maxLen;omega) (by omega) (by simp;have:=HBw.out;omega) (w2.heap.size + 1) (by simp) ?_
 intro g3 cap3 w3 hown3 hgrow3 hat3 hlt3
 have hb3:=(hgrow3.block b (Hbs.out _) Hbn.out).trans (HbD.out _)
 have hG3:=(hgrow3.block G (HGs.out _) HGn.out).trans (HGD.out _)
 refine hK _ _ ⟨hb3,hG3⟩ ?_
 clear hK K
 have Hown3:=Lib.hid hown3
 have Hgrow3:=Lib.hid hgrow3
 have Hat3:=Lib.hid hat3
 have Hb3:=Lib.hid hb3
 have HG3:=Lib.hid hG3
 clear hown3 hgrow3 hat3 hb3 hG3
 simp only [Act.put,List.setIfInBounds_toArray,List.set_cons_zero,List.set_cons_succ]
 refine listE_step fun K hK=>?_
 go_simp
 refine hK _ _ ⟨Hb3.out,HG3.out⟩ ?_
 clear hK K
 refine listE_step fun K hK=>?_
 go_simp
 refine hK _ _ ⟨Hb3.out,HG3.out⟩ ?_
 clear hK K
 refine listE_last ?_
 refine wpList_store_blk rfl 95 _ _ (by rfl) b 3328 (.slice (some ⟨g3,0,none⟩) (D.ps.length + 1) cap3) (by rfl) (by rfl) (dcells D.S (putAt D.now k x) pv D.f) 97 (Hb3.out.trans Hhb2.out) [.slice (some ⟨g3,0,none⟩) (D.ps.length + 1) cap3] (by rfl) 1 (by rfl) size_pend (by have:=Hdl.out;omega) (by intro u hu;simp at hu;subst hu;rfl) (dcells D.S (putAt D.now k x) (.slice (some ⟨g3,0,none⟩) (D.ps.length + 1) cap3) D.f) (spl_pv HS.out hN') ?_
 intro w4 hb4 hg4
 refine wpList_nil (NoPanic.normal ?_)
 have Hb4:=Lib.hid hb4
 have Hg4:=Lib.hid hg4
 clear hb4 hg4
 go_wp2
 go_ret
 exact ⟨_,rfl,dsk_write_end Hh.out hk Hx.out hB1 Hg2.out Hgrow3.out Hat3.out Hown3.out Hb4.out Hg4.out⟩
end
end Go.Proofs.YtldfoadildaljaaGreat
end
section
namespace Go.Proofs.YtldfoadildaljaaGreat
open Go.RowKit
section
variable (B b:Nat) (pv:Value) (D:Dsk) (w:World) (h:DskAt w B b pv D)
include h
theorem dsk_write_no (k:Int) (A:Option Addr) (n c:Nat) (hk:-9223372036854775808 ≤ k∧k ≤ 9223372036854775807) (hn:n ≤ 140737488355328) (hE:takeE D.f k n ≠ 0) :
    Calls Tryz.prog 92 #[.pointer (some ⟨b,0,none⟩),.int .i64 k,.slice A n c] w fun e w'=>e=.returned (.int .i64 (takeE D.f k n))∧w'=w:=by
 have C:=Lib.hid (dsk_take_any B b pv D w h k A n c hk hn)
 clear h
 generalize takeE D.f k n=E at C hE ⊢
 have e2:(E != 0)=true:=by rw [bne_iff_ne];exact hE
 clear hE
 go_enter Tryz.func92,Tryz.ntmps92
 go_wp2_with fail
 refine C.out.mono ?_
 rintro e w' ⟨rfl,rfl⟩
 go_wp2
 go_ret
 exact ⟨rfl,rfl⟩
theorem dsk_flush_no (hf:D.f=true):Calls Tryz.prog 97 #[.pointer (some ⟨b,0,none⟩)] w fun e w'=>e=.returned (.int .i64 5)∧w'=w:=by
 have hc:=cell_df h.blk h.ok.S h.ok.now
 rw [hf] at hc
 clear h
 go_enter Tryz.func97,Tryz.ntmps97
 go_wp2
 go_ret
 exact ⟨rfl,rfl⟩
theorem dsk_flush_ok (hf:D.f=false):Calls Tryz.prog 97 #[.pointer (some ⟨b,0,none⟩)] w fun e w'=>e=.returned (.int .i64 0)∧DskAt w' B b (.slice none 0 0) D.flush∧Chg (DF b pv) w w':=by
 have Hh:=Lib.hid h
 have HS:=Lib.hid h.ok.S
 have HN:=Lib.hid h.ok.now
 have Hc:=Lib.hid (cell_df h.blk h.ok.S h.ok.now)
 have Hr:=Lib.hid (range_N h.blk h.ok.S)
 have hcf:=cell_df h.blk h.ok.S h.ok.now
 rw [hf] at hcf
 clear h
 go_enter Tryz.func97,Tryz.ntmps97
 go_wp2_with (first
  |(refine wpList_load_mid rfl 94 _ (by rfl) b 1664 (by rfl) (D.now.map bv) _ Hr.out Tryz.underlying94 rfl (by rw [List.length_map,HN.out];exact size_arr) ?_)
  |(refine wpList_store_blk rfl 94 _ _ (by rfl) b 0 (.agg (D.now.map bv).toArray) (by rfl) (by rfl) (dcells D.S D.now pv D.f) 97 Hh.out.blk (D.now.map bv) (by rfl) 1664 (by rw [List.length_map,HN.out]) size_arr (by rw [dcells_len HS.out HN.out];omega) map_bv_one (dcells D.now D.now pv D.f) (spl_S (by rw [HS.out,HN.out])) ?_;intro w1 hb1 hg1
    have Hb1:=Lib.hid hb1
    have Hg1:=Lib.hid hg1
    clear hb1 hg1 hcf)
  |(refine wpList_store_blk rfl 95 _ _ (by rfl) b 3328 (.slice none 0 0) (by rfl) (by rfl) (dcells D.now D.now pv D.f) 97 Hb1.out [.slice none 0 0] (by rfl) 1 (by rfl) size_pend (by rw [dcells_len HN.out HN.out];omega) (by intro u hu;simp at hu;subst hu;rfl) (dcells D.now D.now (.slice none 0 0) D.f) (spl_pv HN.out HN.out) ?_;intro w2 hb2 hg2))
 go_ret
 exact ⟨rfl,⟨hb2,World.ownsRow_nil _ _ _ _,Hh.out.le,by simp [Value.ownBlock],Hh.out.ok.flush⟩,
  ((chg_grown Hg1.out).trans (chg_grown hg2) fun _ _ e=>e).mono fun i _ e=>.inl (by injection e with e;exact e.symm)⟩
theorem dsk_fail_any:Calls Tryz.prog 47 #[.pointer (some ⟨b,0,none⟩)] w fun e w'=>e=.returned (.tuple #[])∧DskAt w' B b (.slice none 0 0) Dsk.failed∧Chg (DF b pv) w w':=by
 have Hh:=Lib.hid h
 have HS:=Lib.hid h.ok.S
 have HN:=Lib.hid h.ok.now
 clear h
 have H:=Lib.hid (show ∀ w':World,w'.heap[b]?=some (.cells (dcells (List.replicate 1664 0) (List.replicate 1664 0) (.slice none 0 0) true).toArray 97 (0,0))→DskAt w' B b (.slice none 0 0) Dsk.failed from
  fun w' hb=>⟨hb,World.ownsRow_nil _ _ _ _,Hh.out.le,by simp [Value.ownBlock],Dsk.failed_ok⟩)
 have hbuild:=build_failed
 have Hl:=Lib.hid (dcells_len (List.length_replicate (n:=1664) (a:=(0:UInt8))) (List.length_replicate (n:=1664) (a:=(0:UInt8))) (.slice none 0 0) true)
 have H1:=Lib.hid (show ∀ u ∈ dcells (List.replicate 1664 0) (List.replicate 1664 0) (.slice none 0 0) true,u.oneCell'=true from fun u hu=>by
  unfold dcells at hu
  rcases List.mem_append.1 hu with h | h
  ·rcases List.mem_append.1 h with h | h <;> exact map_bv_one u h
  ·rcases List.mem_cons.1 h with rfl | h
   ·rfl
   ·rw [List.mem_singleton.1 h];rfl)
 generalize hC:dcells (List.replicate 1664 0) (List.replicate 1664 0) (.slice none 0 0) true=C at H hbuild Hl H1
 clear hC
 go_enter Tryz.func47,Tryz.ntmps47
 go_wp2_with (first
  |((refine wpList_build_run rfl 97 #[(3,.const (.bool true))] (by rfl) #[(3,.bool true)] (by simp [Act.eval]) (.agg C.toArray) (hbuild _) ?_))
  |(refine wpList_store_blk rfl 97 _ _ (by rfl) b 0 (.agg C.toArray) (by rfl) (by rfl) (dcells D.S D.now pv D.f) 97 Hh.out.blk C (by rfl) 3330 Hl.out size_dsk (by rw [dcells_len HS.out HN.out];omega) H1.out C (spl_all (by rw [Hl.out,dcells_len HS.out HN.out])) ?_;intro w1 hb1 hg1))
 go_end0
 exact ⟨rfl,H.out _ hb1,(chg_grown hg1).mono fun i _ e=>.inl (by injection e with e;exact e.symm)⟩
theorem dsk_read_no (k:Int) (hk:-9223372036854775808 ≤ k∧k ≤ 9223372036854775807) (hE:reachE D.f k ≠ 0) :
    Calls Tryz.prog 52 #[.pointer (some ⟨b,0,none⟩),.int .i64 k] w fun e w'=>e=.returned (.tuple #[.slice none 0 0,.int .i64 (reachE D.f k)])∧w'=w:=by
 have C:=Lib.hid (dsk_reach_any B b pv D w h k hk)
 clear h
 generalize reachE D.f k=E at C hE ⊢
 have e2:(E != 0)=true:=by rw [bne_iff_ne];exact hE
 clear hE
 go_enter Tryz.func52,Tryz.ntmps52
 go_wp2_with fail
 refine C.out.mono ?_
 rintro e w' ⟨rfl,rfl⟩
 go_wp2
 go_ret2
 exact ⟨rfl,rfl⟩
theorem dsk_read_ok (k:Nat) (hk:k < 52) (hf:D.f=false) :
    Calls Tryz.prog 52 #[.pointer (some ⟨b,0,none⟩),.int .i64 (k:Int)] w fun e w'=>∃ v,e=.returned (.tuple #[v,.int .i64 0])∧OwB 5 w' w.heap.size v (secAt D.now k)∧Below w.heap.size w w':=by
 have C:=Lib.hid (dsk_reach_any B b pv D w h (k:Int) (by omega))
 have hE:reachE D.f (k:Int)=0:=by unfold reachE;rw [hf,if_neg (by simp),if_neg (by omega)]
 rw [hE] at C
 have hlt:=h.lt
 have hl:(secAt D.now k).length=32:=secAt_len (by rw [h.ok.now];omega)
 have Hr:=Lib.hid (show RdB w w.heap.size (some ⟨b,1664 + k * 32,none⟩) (secAt D.now k) from ⟨by omega,fun _=>⟨b,_,rfl,h.lt,fun j hj=>by
  have:=range_sec (k:=k) (range_N h.blk h.ok.S) j (bv ((secAt D.now k).getD j 0)) (by simp [hj])
  exact this⟩⟩)
 have CC:=Lib.hid (fun c=>clone_any (some ⟨b,1664 + k * 32,none⟩) (secAt D.now k) 32 c w hl.symm (by omega) Hr.out)
 clear h hE hl Hr
 have k0:(0:Int) ≤ (k:Int):=by omega
 have k1:(k:Int) < 52:=by omega
 go_enter Tryz.func52,Tryz.ntmps52
 go_wp2_with fail
 refine C.out.mono ?_
 rintro e w' ⟨rfl,rfl⟩
 go_wp2_with fail
 refine (CC.out _).mono ?_
 rintro e w1 ⟨v,rfl,ho,hb⟩
 go_wp2
 go_ret2
 exact ⟨v,rfl,ho,hb⟩
end
end Go.Proofs.YtldfoadildaljaaGreat
end
section
namespace Go.Proofs.YtldfoadildaljaaGreat
open Go.RowKit
theorem wcells_get {ps:List (Nat × List UInt8)} (h:WOk ps) {i:Nat} (hi:i < ps.length) (j:Nat) (hj:j < 33):(wcells ps)[i * 33 + j]?=(wcell (ps.getD i (0,[])))[j]?:=by
 induction ps generalizing i with
 | nil=>simp at hi
 | cons p ps ih =>
   have hl:(wcell p).length=33:=wcell_len (h p (List.mem_cons_self ..)).2
   have e:wcells (p::ps)=wcell p ++ wcells ps:=by simp [wcells]
   rw [e]
   cases i with
   | zero=>rw [Nat.zero_mul,Nat.zero_add,List.getElem?_append_left (by omega)];rfl
   | succ i =>
     rw [List.getElem?_append_right (by omega),hl,show (i + 1) * 33 + j - 33=i * 33 + j by omega,ih h.cons (by simpa using hi)]
     rfl
theorem own_cell_at {w:World} {B g n cap:Nat} {e:TypeId} {size:Nat} {xs:List Value} (h:w.ownsRow B e size (.slice (some ⟨g,0,none⟩) n cap) n xs) (j:Nat) (hj:j < xs.length):w.cell? ⟨g,j,none⟩=xs[j]?:=by
 rcases h.2 with ⟨h1,_⟩ | ⟨g',cap',cur,h1,h2,h3,h4,h5,h6,h7⟩
 ·cases h1
 ·injection h1 with h8 _ h9
  injection h8 with h8
  injection h8 with h8 _ _
  subst h8 h9
  have hx:=h.1
  rw [cell_of_row w g j cur e (0,0) h3,← h7,List.getElem?_take,if_pos (by omega),Array.getElem?_toList]
theorem range_pend {w:World} {B g n cap:Nat} {ps:List (Nat × List UInt8)} (h:w.ownsRow B 99 33 (.slice (some ⟨g,0,none⟩) n cap) n (wcells ps)) (hok:WOk ps) {i:Nat} (hi:i < ps.length):w.rangeAt g (i * 33) (wcell (ps.getD i (0,[]))):=fun j v hj=>by
 have hm:ps.getD i (0,[]) ∈ ps:=by simp [hi]
 have hl:=wcell_len (hok _ hm).2
 have hj33:j < 33:=by have:=(List.getElem?_eq_some_iff.1 hj).1;omega
 have hx:(wcells ps)[i * 33 + j]?=some v:=(wcells_get hok hi j hj33).trans hj
 rw [own_cell_at h _ (List.getElem?_eq_some_iff.1 hx).1]
 exact hx
theorem own_form {w:World} {B n:Nat} {e:TypeId} {size:Nat} {v:Value} {xs:List Value} (h:w.ownsRow B e size v n xs):∃ A c,v=.slice A n c∧n ≤ c∧(0 < n→∃ g,A=some ⟨g,0,none⟩∧B ≤ g):=by
 rcases h.2 with ⟨rfl,rfl⟩ | ⟨g,cap,cur,rfl,hB,_,hc,_⟩
 ·exact ⟨none,0,rfl,Nat.le_refl _,fun h=>by omega⟩
 ·exact ⟨_,cap,rfl,hc,fun _=>⟨g,rfl,hB⟩⟩
end Go.Proofs.YtldfoadildaljaaGreat
end
section
namespace Go.Proofs.YtldfoadildaljaaGreat
open Go.RowKit
def Dsk.writeE (D:Dsk) (k:Int) (x:List UInt8):Dsk:=if takeE D.f k x.length=0 then D.write k.toNat x else D
def Dsk.damageE (D:Dsk) (k:Int) (x:List UInt8):Dsk:=if takeE D.f k x.length=0 then D.damage k.toNat x else D
def Dsk.flushE (D:Dsk):Dsk:=if D.f=true then D else D.flush
def Dsk.readE (D:Dsk) (k:Int):List UInt8:=if reachE D.f k=0 then secAt D.now k.toNat else []
theorem takeE_zero {f:Bool} {k:Int} {n:Nat} (h:takeE f k n=0):f=false∧0 ≤ k∧k < 52∧n=32:=by
 unfold takeE reachE at h
 cases f
 ·by_cases h1:k < 0∨52 ≤ k
  ·simp [h1] at h
  ·by_cases h2:n=32
   ·exact ⟨rfl,by omega,by omega,h2⟩
   ·simp [h1,h2] at h
 ·simp at h
theorem reachE_zero {f:Bool} {k:Int} (h:reachE f k=0):f=false∧0 ≤ k∧k < 52:=by
 unfold reachE at h
 cases f
 ·by_cases h1:k < 0∨52 ≤ k
  ·simp [h1] at h
  ·exact ⟨rfl,by omega,by omega⟩
 ·simp at h
theorem takeE_ok {k:Int} (h0:0 ≤ k) (h1:k < 52):takeE false k 32=0:=by
 unfold takeE reachE;simp;omega
theorem reachE_ok {k:Int} (h0:0 ≤ k) (h1:k < 52):reachE false k=0:=by
 unfold reachE;simp;omega
theorem takeE_fail (k:Int) (n:Nat):takeE true k n=5:=by unfold takeE reachE;simp
namespace Dsk
end Dsk
section
variable (B b:Nat) (pv:Value) (D:Dsk) (w:World) (h:DskAt w B b pv D)
include h
theorem dsk_write_any (k:Int) (x:List UInt8) (A:Option Addr) (n c:Nat) (hn:n=x.length) (hk:-9223372036854775808 ≤ k∧k ≤ 9223372036854775807) (hr:RdB w w.heap.size A x) (hps:D.ps.length ≤ 2000000) :
    Calls Tryz.prog 92 #[.pointer (some ⟨b,0,none⟩),.int .i64 k,.slice A n c] w fun e w'=>∃ pv',e=.returned (.int .i64 (takeE D.f k n))∧DskAt w' B b pv' (D.writeE k x)∧Chg (DF b pv) w w'∧NewOr w pv pv':=by
 subst hn
 unfold Dsk.writeE
 by_cases he:takeE D.f k x.length=0
 ·obtain ⟨hf,h0,h1,hl⟩:=takeE_zero he
  have e:=dsk_write_ok B b pv D k.toNat x A c w h hf (by omega) hl hr hps
  rw [Int.toNat_of_nonneg h0] at e
  rw [if_pos he,he,hl]
  exact e
 ·rw [if_neg he]
  refine (dsk_write_no B b pv D w h k A x.length c hk (by have:=hr.1;omega) he).mono ?_
  rintro e w' ⟨rfl,rfl⟩
  exact ⟨pv,rfl,h,Chg.refl _ _,NewOr.refl _ _⟩
theorem dsk_flush_any:Calls Tryz.prog 97 #[.pointer (some ⟨b,0,none⟩)] w fun e w'=>∃ pv',e=.returned (.int .i64 (if D.f=true then 5 else 0))∧DskAt w' B b pv' D.flushE∧Chg (DF b pv) w w'∧NewOr w pv pv':=by
 unfold Dsk.flushE
 by_cases hf:D.f=true
 ·rw [if_pos hf,if_pos hf]
  refine (dsk_flush_no B b pv D w h hf).mono ?_
  rintro e w' ⟨rfl,rfl⟩
  exact ⟨pv,rfl,h,Chg.refl _ _,NewOr.refl _ _⟩
 ·rw [if_neg hf,if_neg hf]
  refine (dsk_flush_ok B b pv D w h (by simpa using hf)).mono ?_
  rintro e w' ⟨rfl,h1,h2⟩
  exact ⟨_,rfl,h1,h2,NewOr.none _ _⟩
theorem dsk_read_any (k:Int) (hk:-9223372036854775808 ≤ k∧k ≤ 9223372036854775807) :
    Calls Tryz.prog 52 #[.pointer (some ⟨b,0,none⟩),.int .i64 k] w fun e w'=>∃ v,e=.returned (.tuple #[v,.int .i64 (reachE D.f k)])∧OwB 5 w' w.heap.size v (D.readE k)∧Below w.heap.size w w':=by
 unfold Dsk.readE
 by_cases he:reachE D.f k=0
 ·obtain ⟨hf,h0,h1⟩:=reachE_zero he
  have e:=dsk_read_ok B b pv D w h k.toNat (by omega) hf
  rw [Int.toNat_of_nonneg h0] at e
  rw [if_pos he,he]
  exact e
 ·rw [if_neg he]
  refine (dsk_read_no B b pv D w h k hk he).mono ?_
  rintro e w' ⟨rfl,rfl⟩
  exact ⟨_,rfl,OwB.nil _ _ _,Below.refl _ _⟩
end
end Go.Proofs.YtldfoadildaljaaGreat
end
section
set_option maxRecDepth 8000
namespace Go.Proofs.YtldfoadildaljaaGreat
open Go.RowKit
theorem range_own {w:World} {B g n cap:Nat} {e:TypeId} {size:Nat} {xs:List Value} (h:w.ownsRow B e size (.slice (some ⟨g,0,none⟩) n cap) n xs):∀ j u,xs[j]?=some u→w.cell? ((⟨g,0,none⟩:Addr).add j)=some u:=fun j u hu=>by
 have e1:((⟨g,0,none⟩:Addr).add j)=⟨g,j,none⟩:=by unfold Addr.add;by_cases hk0:j=0 <;> simp [hk0]
 rw [e1,own_cell_at h j (List.getElem?_eq_some_iff.1 hu).1]
 exact hu
theorem wcells_len {ps:List (Nat × List UInt8)} (h:WOk ps):(wcells ps).length=ps.length * 33:=by
 induction ps with
 | nil=>rfl
 | cons p ps ih =>
   have e:wcells (p::ps)=wcell p ++ wcells ps:=by simp [wcells]
   rw [e,List.length_append,wcell_len (h p (List.mem_cons_self ..)).2,ih h.cons,List.length_cons]
   omega
theorem wcells_one {ps:List (Nat × List UInt8)}:∀ u ∈ wcells ps,u.oneCell'=true:=fun u hu=>by
 obtain ⟨p,_,hp⟩:=List.mem_flatMap.1 hu
 rcases List.mem_cons.1 hp with rfl | h
 ·rfl
 ·exact map_bv_one u h
theorem size_pwc:(Tryz.prog.info? 99).map (fun i=>(i.zero,i.size,i.bytes))=some (some (.agg (Value.int .i64 0::List.replicate 32 (Value.int .u8 0)).toArray),33,40):=by kernel_rfl
set_option maxHeartbeats 400000 in
theorem clonew_any (pv:Value) (B:Nat) (ps:List (Nat × List UInt8)) (w:World) (h:w.ownsRow B 99 33 pv ps.length (wcells ps)) (hok:WOk ps) (hps:ps.length ≤ 2000000) :
    Calls Tryz.prog 108 #[pv] w fun e w'=>∃ v,e=.returned v∧w'.ownsRow w.heap.size 99 33 v ps.length (wcells ps)∧Below w.heap.size w w':=by
 rcases h.2 with ⟨rfl,h0⟩ | ⟨g,cap,cur,rfl,hB,hg,hc,_⟩
 ·have hn:ps=[]:=List.eq_nil_of_length_eq_zero h0
  subst hn
  have hq:∀ W:World,(binOp .eql 95 (.slice none 0 0) (.slice none 0 0)).run Tryz.prog W=.ok (.bool true) W:=fun _=>rfl
  go_enter Tryz.func108,Tryz.ntmps108
  go_wp2
  go_ret
  exact ⟨_,rfl,World.ownsRow_nil _ _ _ _,Below.refl _ _⟩
 ·have hq:∀ W:World,(binOp .eql 95 (.slice (some ⟨g,0,none⟩) ps.length cap) (.slice none 0 0)).run Tryz.prog W=.ok (.bool false) W:=fun _=>rfl
  obtain ⟨iw,hiw,hzz⟩:=Option.map_eq_some_iff.1 size_pwc
  simp only [Prod.mk.injEq] at hzz
  obtain ⟨hz,hs,hb⟩:=hzz
  have Hcells:=Lib.hid (range_own h)
  have Hl:=Lib.hid (wcells_len hok)
  have hglt:g < w.heap.size:=(Array.getElem?_eq_some_iff.1 hg).1
  have Hc2:=Lib.hid (show ∀ o:Obj,∀ j u,(wcells ps)[j]?=some u→(w.alloc o).cell? ((⟨g,0,none⟩:Addr).add j)=some u from fun o j u hu=>by
   have h1:=Hcells.out j u hu
   rw [World.cell?_alloc_lt _ _ _ (by unfold Addr.add;split <;> simpa using hglt)]
   exact h1)
  have Hz:=Lib.hid hz
  have Hs:=Lib.hid hs
  have Hb:=Lib.hid hb
  have Hiw:=Lib.hid hiw
  have Ho:=Lib.hid (show (w.alloc (.cells #[] 99)).ownsRow w.heap.size 99 33 (.slice (some ⟨w.heap.size,0,none⟩) 0 0) 0 [] from ⟨rfl,.inr ⟨w.heap.size,0,#[],rfl,Nat.le_refl _,heap_alloc_new _ _,Nat.le_refl _,by unfold maxLen;omega,rfl,rfl⟩⟩)
  clear h hg hz hs hb hiw
  go_enter Tryz.func108,Tryz.ntmps108
  go_wp2_with (at_builtin;refine wpList_append_own_at _ rfl _ _ _ rfl w.heap.size 99 iw _ 33 40 Tryz.underlying95 Hiw.out Hz.out Hs.out Hb.out rfl (by omega) (.slice (some ⟨w.heap.size,0,none⟩) 0 0) 0 [] rfl Ho.out ⟨g,0,none⟩ ps.length cap (wcells ps) rfl Hl.out (Hc2.out _) wcells_one (by unfold maxLen;omega) (by omega) (by simp) ?_;intro v' w' hown hgr hnil hat)
  have hbw:=(below1 w (.cells #[] 99)).grown hgr (by simp) (by simp [Value.ownBlock])
  rw [List.nil_append,Nat.zero_add] at hown
  go_ret
  exact ⟨v',rfl,hown,hbw⟩
theorem wp_alloc_dsk {C:List Value} (hz:∀ w,(zeroValue 97).run Tryz.prog w=.ok (.agg C.toArray) w) {ops:Array Oper} {rest:List Oper} {op:Oper} {a:Act} {w:World} {Q:Exit→Act→World→Prop} (hgd:op.guard=none) (ho:op.op=.alloc 97)
    (h:wpList Tryz.prog ops Q rest (a.put op.dst (.pointer (some ⟨w.heap.size,0,none⟩))) (w.alloc (.cells C.toArray 97))):wpList Tryz.prog ops Q (op::rest) a w :=
 wpList_plain hgd fun K hK=>by
  unfold Oper.wp execOp
  simp only [ho,Instr.alloc,Sem.run_bind,hz,Result.andThen_ok]
  simp [newVar,newRow,Value.cells,Oper.upon_value]
  exact hK _ _ h
set_option maxHeartbeats 800000 in
theorem dsk_clone_any (B b:Nat) (pv:Value) (D:Dsk) (w:World) (h:DskAt w B b pv D) (hps:D.ps.length ≤ 2000000) :
    Calls Tryz.prog 91 #[.pointer (some ⟨b,0,none⟩)] w fun e w'=>∃ b' pv',e=.returned (.pointer (some ⟨b',0,none⟩))∧DskAt w' w.heap.size b' pv' D∧Below w.heap.size w w':=by
 have Hh:=Lib.hid h
 have HS:=Lib.hid h.ok.S
 have HN:=Lib.hid h.ok.now
 have hblt:=h.lt
 have Hrange:=Lib.hid (show w.rangeAt b 0 (dcells D.S D.now pv D.f) from fun j v hj=>by rw [Nat.zero_add,cell_of_row _ _ _ _ _ _ h.blk];simpa using hj)
 have Hl:=Lib.hid (dcells_len HS.out HN.out pv D.f)
 have hpv1:pv.oneCell'=true:=by rcases h.own.2 with ⟨rfl,_⟩ | ⟨g,cap,cur,rfl,_⟩ <;> rfl
 have H1:=Lib.hid (show ∀ u ∈ dcells D.S D.now pv D.f,u.oneCell'=true from fun u hu=>by
  unfold dcells at hu
  rcases List.mem_append.1 hu with h | h
  ·rcases List.mem_append.1 h with h | h <;> exact map_bv_one u h
  ·rcases List.mem_cons.1 h with rfl | h
   ·exact hpv1
   ·rw [List.mem_singleton.1 h];rfl)
 have Hz:=Lib.hid (zero_of_info info_dsk).1
 have HlC:=Lib.hid (dcells_len (List.length_replicate (n:=1664) (a:=(0:UInt8))) (List.length_replicate (n:=1664) (a:=(0:UInt8))) (.slice none 0 0) false)
 generalize dcells (List.replicate 1664 0) (List.replicate 1664 0) (.slice none 0 0) false=C at Hz HlC
 clear h hpv1
 go_enter Tryz.func91,Tryz.ntmps91
 go_wp2_with (first
  |(refine wpList_load_mid rfl 97 _ (by rfl) b 0 (by rfl) (dcells D.S D.now pv D.f) _ Hrange.out Tryz.underlying97 rfl (by rw [Hl.out];exact size_dsk) ?_)
  |(refine wp_alloc_dsk Hz.out rfl (by rfl) ?_)
  |(refine wpList_store_blk rfl 97 _ _ (by rfl) w.heap.size 0 (.agg (dcells D.S D.now pv D.f).toArray) (by rfl) (by rfl) C 97 (heap_alloc_new _ _) (dcells D.S D.now pv D.f) (by rfl) 3330 Hl.out size_dsk (by rw [HlC.out];omega) H1.out (dcells D.S D.now pv D.f) (spl_all (by rw [Hl.out,HlC.out])) ?_
    intro w1 h1 hg1
    have hB1:Below w.heap.size w w1:=(below1 w _).grown hg1 (by simp) (fun j hj=>by injection hj with hj;omega)
    have HD:=Lib.hid (Hh.out.below hB1)
    have hcp:=cell_dpv HD.out.blk HS.out HN.out
    have H1b:=Lib.hid h1
    have HB1:=Lib.hid hB1
    have CC:=Lib.hid (clonew_any pv B D.ps w1 HD.out.own HD.out.ok.ps hps)
    clear h1 hg1 hB1))
 refine CC.out.mono ?_
 rintro e w2 ⟨v2,rfl,hown2,hb2⟩
 have hlt1:w.heap.size < w1.heap.size:=(Array.getElem?_eq_some_iff.1 H1b.out).1
 have Hb:=Lib.hid ((hb2.block w.heap.size hlt1).trans H1b.out)
 have hv1:v2.oneCell'=true:=by rcases hown2.2 with ⟨rfl,_⟩ | ⟨g,cap,cur,rfl,_⟩ <;> rfl
 have hvc:v2.cells=#[v2]:=by rcases hown2.2 with ⟨rfl,_⟩ | ⟨g,cap,cur,rfl,_⟩ <;> rfl
 have Hown2:=Lib.hid hown2
 have HB2:=Lib.hid hb2
 have Hv1:=Lib.hid hv1
 have Hvc:=Lib.hid hvc
 clear hown2 hb2 hv1 hvc hcp
 go_wp2_with (refine wpList_store_blk rfl 95 _ _ (by rfl) w.heap.size 3328 v2 (by rfl) (by rfl) (dcells D.S D.now pv D.f) 97 Hb.out [v2] Hvc.out 1 (by rfl) size_pend (by rw [Hl.out];omega) (by intro u hu;simp at hu;subst hu;exact Hv1.out) (dcells D.S D.now v2 D.f) (spl_pv HS.out HN.out) ?_;intro w3 h3 hg3)
 go_ret
 have hne:∀ k,v2.ownBlock=some k→k ≠ w.heap.size:=fun k hk e=>by have:=(Hown2.out.lt k hk).1;omega
 refine ⟨w.heap.size,v2,rfl,⟨h3,?_,Nat.le_refl _,fun e=>hne _ e rfl,Hh.out.ok⟩,(HB1.out.trans (HB2.out.mono (by omega))).grown hg3 (by have:=HB2.out.size;omega) (fun j hj=>by injection hj with hj;omega)⟩
 have h5:=own_chg Hown2.out (chg_grown hg3) fun k hk e=>hne k hk (by injection e with e;exact e.symm)
 refine ⟨h5.1,?_⟩
 rcases h5.2 with h6 | ⟨g,cap,cur,h6,h7,r⟩
 ·exact .inl h6
 ·exact .inr ⟨g,cap,cur,h6,by omega,r⟩
end Go.Proofs.YtldfoadildaljaaGreat
end
section
set_option maxRecDepth 20000
namespace Go.Proofs.YtldfoadildaljaaGreat
open Go.RowKit
end Go.Proofs.YtldfoadildaljaaGreat
end
