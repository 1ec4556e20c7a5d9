/- Texts put together: BchNew, BchClone. -/
import Derived.Test.YtldfoadildaljaaGreatWmaw
section
set_option linter.unusedSimpArgs false
namespace Go.Proofs.YtldfoadildaljaaGreat
open Go.RowKit
theorem build_bch (g n:Nat) (w:World):(Instr.build 43 #[(1,.slice (some ⟨g,0,none⟩) n n)]).run Tryz.prog w=.ok (.agg (bcells g n 0 0 false).toArray) w:=by kernel_rfl
set_option maxHeartbeats 800000 in
theorem bch_new_ok (n:Nat) (w:World) (hn:1 ≤ n∧n ≤ 8):Calls Tryz.prog 26 #[.int .i64 (n:Int)] w fun e w'=>∃ b H,e=.returned (.tuple #[ptr b,.int .i64 0])∧BAt w' w.heap.size b H (Bch.new n)∧Below w.heap.size w w':=by
 have hmk:=make_pdisks n (by omega) (fun _=>0)
 have hbd:=build_bch
 obtain ⟨n1,n8⟩:=hn
 have i1:(1:Int) ≤ (n:Int):=by omega
 have i8:(n:Int) ≤ 8:=by omega
 go_enter Tryz.func26,Tryz.ntmps26
 go_wp2_with ((refine wpList_build_run rfl 43 #[(1,.tmp 13)] (by rfl) #[(1,.slice (some ⟨w.heap.size,0,none⟩) n n)] (by rfl) (.agg (bcells w.heap.size n 0 0 false).toArray) (hbd _ _ _) ?_))
 have hp0:PAt ((w.alloc (.cells (rowk n 0 fun _=>0).toArray 76)).alloc (.cells #[.int .i64 0,.int .i64 0,.bool false,.slice (some ⟨w.heap.size,0,none⟩) n n] 43)) w.heap.size (w.heap.size + 1) ⟨w.heap.size,fun _=>0,fun _=>.slice none 0 0⟩ ⟨n,fun _=>Dsk.new,0,0,false⟩ 0 :=
  ⟨hp_new _ _ _ (by simp),(hp_old _ _ _ (by simp)).trans (hp_new _ _ _ rfl),fun i hi=>by omega,⟨by omega,Nat.le_refl _⟩,by show w.heap.size + 1 ≠ w.heap.size;omega,fun i hi=>by omega,fun i j hi=>by omega⟩
 have hb0:=below2 w (.cells (rowk n 0 fun _=>0).toArray 76) (.cells #[.int .i64 0,.int .i64 0,.bool false,.slice (some ⟨w.heap.size,0,none⟩) n n] 43)
 generalize (w.alloc (.cells (rowk n 0 fun _=>0).toArray 76)).alloc (.cells #[.int .i64 0,.int .i64 0,.bool false,.slice (some ⟨w.heap.size,0,none⟩) n n] 43)=w0 at hp0 hb0 ⊢
 generalize hB:w.heap.size=B at hp0 hb0 ⊢
 have HB:=Lib.hid hB
 clear hmk hbd hB
 go_wp2_with fail
 go_loopw [21] (fun i wr=>∃ (k:Nat) (bk:Nat→Nat) (pv:Nat→Value),k ≤ n∧i=.int .i64 k∧PAt wr B (B + 1) ⟨B,bk,pv⟩ ⟨n,fun _=>Dsk.new,0,0,false⟩ k∧Below B w wr) (fun i _=>n - (intOf i).toNat)
 case atStart=>exact ⟨0,_,_,Nat.zero_le _,rfl,hp0,hb0⟩
 case round =>
  clear hp0 hb0
  obtain ⟨k,bk,pv,hk,rfl,hp,hb⟩:=hrel
  by_cases hlt:k < n
  ·have i2:(0:Int) ≤ (k:Int):=by omega
   have i3:(k:Int) < (n:Int):=by omega
   have Hp:=Lib.hid hp
   have Hb:=Lib.hid hb
   have Hl:=Lib.hid hp.lt
   have HC:=Lib.hid (fun V (hV:Below wr.heap.size wr V)=>(show V.cell? ⟨B + 1,3,none⟩=some (.slice (some ⟨B,0,none⟩) n n) by rw [cell_of_row _ _ _ _ _ _ (hp.below hV).blk];rfl))
   clear hp hb
   go_wp2
   refine wp_region_noPanic (region_ord 6 [] (fun V=>Below wr.heap.size wr V) (by kernel_rfl) (by kernel_rfl) (fun _ _ _ _ _ h=>h) fun R=>?_)
   change anyI _ _ _ _ _ _ 8 _ _ wr.drew
   have HS0:=Lib.hid ((Below.refl wr.heap.size wr).drew)
   refine anyI_take R 0 rfl (v:=(.pointer (some ⟨B + 1,0,none⟩))) (by kernel_rfl) (by rfl) (fun V hV=>by go_simp) HS0.out ?_
   try simp only [Act.put,List.getElem_toArray,List.getElem_cons_zero,List.setIfInBounds_toArray,List.set_cons_zero,List.set_cons_succ]
   refine anyI_take R 1 rfl (v:=(.pointer (some ⟨B + 1,0,none⟩))) (by kernel_rfl) (by rfl) (fun V hV=>by go_simp) HS0.out ?_
   try simp only [Act.put,List.getElem_toArray,List.getElem_cons_succ,List.getElem_cons_zero,List.setIfInBounds_toArray,List.set_cons_zero,List.set_cons_succ]
   refine anyI_take R 2 rfl (v:=(.pointer (some ⟨B + 1,3,none⟩))) (by kernel_rfl) (by rfl) (fun V hV=>by go_simp) HS0.out ?_
   try simp only [Act.put,List.getElem_toArray,List.getElem_cons_succ,List.getElem_cons_zero,List.setIfInBounds_toArray,List.set_cons_zero,List.set_cons_succ]
   refine anyI_take R 3 rfl (v:=(.slice (some ⟨B,0,none⟩) n n)) (by kernel_rfl) (by rfl) (fun V hV=>by have hc:=HC.out V hV;go_simp) HS0.out ?_
   try simp only [Act.put,List.getElem_toArray,List.getElem_cons_succ,List.getElem_cons_zero,List.setIfInBounds_toArray,List.set_cons_zero,List.set_cons_succ]
   refine anyI_take R 4 rfl (v:=(.int .i64 (k:Int))) (by kernel_rfl) (by rfl) (fun V hV=>by go_simp) HS0.out ?_
   try simp only [Act.put,List.getElem_toArray,List.getElem_cons_succ,List.getElem_cons_zero,List.setIfInBounds_toArray,List.set_cons_zero,List.set_cons_succ]
   refine anyI_one 5 (by kernel_rfl) rfl ?_
   try simp only [List.getElem_toArray,List.getElem_cons_succ,List.getElem_cons_zero]
   refine opE_step ?_
   rw [if_pos (by rfl)]
   go_simp
   go_at_call 53
   refine (dsk_new_any wr.drew).mono ?_
   rintro e w6 ⟨rfl,hd,hb6⟩
   dsimp only
   have hb6':Below wr.heap.size wr w6:=HS0.out.trans hb6
   refine ⟨hb6',?_⟩
   try simp only [Act.put,List.getElem_toArray,List.getElem_cons_succ,List.getElem_cons_zero,List.setIfInBounds_toArray,List.set_cons_zero,List.set_cons_succ]
   refine anyI_tail (by kernel_rfl) ?_
   simp only [List.drop_succ_cons,List.drop_zero]
   clear R
   have Hrow:=Lib.hid ((Hp.out.below hb6').row)
   have Hd:=Lib.hid hd
   have Hb6:=Lib.hid hb6'
   clear hd hb6 hb6' HS0 HC
   go_wp2_with (refine wpList_store_blk rfl 76 _ _ (by rfl) B k (.pointer (some ⟨wr.heap.size,0,none⟩)) (by rfl) (by rfl) (rowk n k bk) 76 Hrow.out [.pointer (some ⟨wr.heap.size,0,none⟩)] (by rfl) 1 rfl size_pdisk (by rw [rowk_len];omega) (by intro u hu;simp at hu;subst hu;rfl) _ rfl ?_;intro w7 h7 hg7)
   refine NoPanic.normal ?_
   have hc7:=(chg_grown hg7).mono (G:=fun j=>j=B) fun i _ e=>by injection e with e;exact e.symm
   have Hn:=Lib.hid (Hp.out.next hlt (by have:=Hl.out;omega) Hb6.out Hd.out h7 hc7)
   have Hbb:=Lib.hid (show Below B w w7 from (Hb.out.trans (Hb6.out.mono (by have:=Hl.out;omega))).trans (hc7.below (fun j e=>by omega) (by have:=Hl.out;have:=Hb6.out.size;omega)))
   clear h7 hg7 hc7 Hrow Hd Hb6
   go_wp2_with fail
   go_roundw
   case rel=>exact ⟨k + 1,_,_,by omega,by go_num,Hn.out,Hbb.out⟩
   case measure=>simp [intOf];omega
  ·obtain rfl:k=n:=by omega
   have ha:=hp.full ⟨⟨n1,n8⟩,by show (-1:Int) ≤ 0∧(0:Int) ≤ 9223372036854775807;omega⟩
   have CR:=Lib.hid (bch_restore_any B (B + 1) _ _ wr ha)
   have Hb:=Lib.hid hb
   have Ha:=Lib.hid (fun j (hj:BF (B + 1) ⟨B,bk,pv⟩ k j)=>ha.flt hj)
   clear hp hb ha
   unfold ptr at CR
   go_wp2_with fail
   refine CR.out.mono ?_
   rintro e w2 ⟨rfl,H2,a2,c2,_,m2⟩
   go_wp2
   go_ret2
   have hs:=HB.out
   rw [hs]
   exact ⟨B + 1,H2,rfl,a2,Hb.out.trans (c2.below (fun j hj=>(Ha.out j hj).1) (by have:=Hb.out.size;omega))⟩
end Go.Proofs.YtldfoadildaljaaGreat
end
section
set_option linter.unusedSimpArgs false
namespace Go.Proofs.YtldfoadildaljaaGreat
open Go.RowKit
end Go.Proofs.YtldfoadildaljaaGreat
end
