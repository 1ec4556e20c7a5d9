/- Texts put together: RefRecEnc, RefRecDec. -/
import Derived.Test.YtenkkdnepmoihaaGreatDoorUcat
import Derived.Test.YtenkkdnepmoihaaGreatDoorUcap
import Derived.Test.YtenkkdnepmoihaaGreatDoorUcag
section
set_option linter.unusedVariables false
set_option linter.unusedSimpArgs false
namespace Go.Proofs.YtenkkdnepmoihaaGreatDoor
open Go.RowKit
theorem refEncRec_no (A:Option Addr) (n c:Nat) (s:Int) (l:List It) (w:World) (hn:l.length=n) (hnc:n ≤ c) (hs:(-9223372036854775808 ≤ s∧s ≤ 9223372036854775807)) (h:RdI w w.heap.size A l) (hk:Hid (recOk s l=false)) :
    Calls Tryz.prog 90 #[.int .i64 s,.slice A n c] w fun e w'=>e=.returned (.tuple #[.slice none 0 0,.bool false])∧Below w.heap.size w w':=by
 have C:=Lib.hid (refCheckRec_any A n c s l w hn hnc hs h)
 rw [hk.out] at C
 clear h hk hn hnc hs
 go_enter Tryz.func90,Tryz.ntmps90
 go_wp2_with fail
 (with_reducible refine C.out.mono ?_);rintro e w1 ⟨rfl,hb1⟩
 go_wp2_with fail
 go_ret2
 exact ⟨rfl,hb1⟩
theorem hdB_nine (s:Int) (l:List It):hdB s l=[87,82,69,67] ++ [byN s 3,byN s 2,byN s 1,byN s 0] ++ [UInt8.ofNat l.length] ++ plcB l:=rfl
set_option maxRecDepth 100000 in
set_option maxHeartbeats 8000000 in
theorem refEncRec_yes (A:Option Addr) (n c:Nat) (s:Int) (l:List It) (w:World) (hn:l.length=n) (hnc:n ≤ c) (hs:(-9223372036854775808 ≤ s∧s ≤ 9223372036854775807)) (h:RdI w w.heap.size A l) (hk:Hid (recOk s l=true)) :
    Calls Tryz.prog 90 #[.int .i64 s,.slice A n c] w fun e w'=>∃ g cap bk cp,e=.returned (.tuple #[.slice (some ⟨g,0,none⟩) 4 cap,.bool true])∧Rw w.heap.size w' g cap 4 bk cp (recB s l)∧Below w.heap.size w w':=by
 subst hn
 have C:=Lib.hid (refCheckRec_any A l.length c s l w rfl hnc hs h)
 rw [hk.out] at C
 have hmk:∀ w,(Instr.makeSlice 35 (.int .i64 32) (.int .i64 32)).run Tryz.prog w=.ok (.slice (some ⟨w.heap.size,0,none⟩) 32 32) (w.alloc (.cells (zcells 32) 5)):=make_bytes 32 (by omega)
 obtain ⟨⟨hs1,hs2,hl3⟩,_⟩:=(recOk_iff s l).1 hk.out
 have HM0:=Lib.hid (recOk_may hk.out)
 have HL:=Lib.hid hl3
 have HI:=Lib.hid h
 have HF:=Lib.hid (fun W=>refFour_any s W (by omega))
 have HH:=Lib.hid (hdB_nine s l)
 have HB:=Lib.hid (show recB s l=stamped (hdB s l ++ List.replicate (32 - (9 + 2 * l.length)) 0) (partsB l)::partsB l by unfold recB fullB;rw [hdB_len])
 have HZ:=Lib.hid (hdB_len s l)
 have HPl:=Lib.hid (partsB_len hl3)
 have el:(l.length:Int)=((UInt8.ofNat l.length).toNat:Int):=by rw [UInt8.toNat_ofNat'];omega
 generalize hfr:[byN s 3,byN s 2,byN s 1,byN s 0]=fr at HF HH
 have Hfr:Hid (fr.length=4):=Lib.hid (by rw [← hfr];rfl)
 generalize UInt8.ofNat l.length=bl at el HH
 have El:=Lib.hid el
 have kl:(bl.toNat:Int) % 256=(bl.toNat:Int):=by have:bl.toNat < 256:=bl.toNat_lt;omega
 have kl2:(l.length:Int) % 256=(l.length:Int):=by omega
 clear h hk hs hs1 hs2 hfr el kl
 go_enter Tryz.func90,Tryz.ntmps90
 go_wp2_with fail
 (with_reducible refine C.out.mono ?_);rintro e w1 ⟨rfl,hb1⟩
 have F1:=Lib.hid hb1
 clear hb1 C
 have hcv:=conv_const w1 w1.heap.size #[.int .u8 87,.int .u8 82,.int .u8 69,.int .u8 67] 4 4 rfl
 have F2:=Lib.hid (F1.out.alloc F1.out.size (.cells #[.int .u8 87,.int .u8 82,.int .u8 69,.int .u8 67] 5 (4,5)))
 have RD:RdB (w1.alloc (.cells #[.int .u8 87,.int .u8 82,.int .u8 69,.int .u8 67] 5 (4,5))) (w1.heap.size + 1) (some ⟨w1.heap.size,0,none⟩) [87,82,69,67]:=rdb_block (hp_new _ _ _ rfl) (by omega) (by simp) fun k hk=>by
  match k,hk with
  | 0,_=>rfl
  | 1,_=>rfl
  | 2,_=>rfl
  | 3,_=>rfl
 go_wp2_with fail
 (with_reducible refine (HF.out _).mono ?_);rintro e w2 ⟨g4,rfl,o4,hb4⟩
 have R1:=RD.below hb4 (by simp)
 have F3':=Lib.hid (F2.out.trans (hb4.mono F2.out.size))
 have R4:=Lib.hid o4.rdS.1
 clear hb4 HF RD F2 F1 o4
 go_upto_region 4 with (first
  |((with_reducible refine (id ?_:wpList _ _ _ (⟨some 18,_,_,_,_,_⟩::_) _ _));refine wpList_append_F _ rfl _ _ _ rfl 5 Tryz.underlying35 info_u8 (some ⟨w1.heap.size,0,none⟩) 4 _ [87,82,69,67] rfl rfl (by omega) R1 (some ⟨g4,0,none⟩) 4 4 _ fr rfl Hfr.out.symm (by rw [Hfr.out];omega) R4.out (by rw [Hfr.out];omega) ?_
    intro v0 w5 O0 hb5
    have F5:=Lib.hid (F3'.out.trans (hb5.mono F3'.out.size))
    have P0:=Lib.hid ((O0.le F3'.out.size).below (below1 w5 (.cells #[.int .u8 (l.length:Int)] 5)))
    have F6:=Lib.hid (F5.out.alloc F5.out.size (.cells #[.int .u8 (l.length:Int)] 5))
    clear O0 hb5 hcv)
  |((with_reducible refine (id ?_:wpList _ _ _ (⟨some 23,_,_,_,_,_⟩::_) _ _));refine wpList_append_B _ rfl _ _ _ rfl w.heap.size 5 Tryz.underlying35 info_u8 v0 _ rfl P0.out _ (some ⟨w5.heap.size,0,none⟩) 1 1 [bl] rfl rfl (rd_lit _ rfl (by simp [bv,El.out]) (by simp)) (by have:=Hfr.out;simp;omega) F6.out.size ?_
    intro v1 w3 O1 g1 _
    have F3:=Lib.hid (F6.out.grown g1 F6.out.size (fun k e=>(P0.out.lt k e).1))
    have O3:=Lib.hid O1
    clear O1 g1 P0 F5 F6))
 clear R1 R4 F3' kl2
 have HB0:Hid (([87,82,69,67] ++ fr ++ [bl]).length=9):=Lib.hid (by have:=Hfr.out;simp;omega)
 generalize [87,82,69,67] ++ fr ++ [bl]=b0 at O3 HH HB0
 go_cut [7] (fun s7 W=>∃ g bk,s7=.slice (some ⟨g,0,none⟩) 3 3∧Rw w3.heap.size W g 3 3 bk (fun _=>32) [z32,z32,z32]∧Below w3.heap.size w3 W)
 case first =>
  clear HB HH HZ HPl
  refine wp_region_noPanic (region_ord 4 [] (fun V=>Below w3.heap.size w3 V) (by kernel_rfl) (by kernel_rfl) (fun _ _ _ _ _ h=>h) fun R=>?_)
  change anyI _ _ _ _ _ _ 5 _ _ w3.drew
  have HS0:=Lib.hid (show (fun V=>Below w3.heap.size w3 V) w3.drew from (Below.refl _ _).drew)
  obtain ⟨V0,hV0⟩:∃ V,w3.drew=V:=⟨_,rfl⟩
  rw [hV0] at HS0 ⊢
  clear hV0
  have HM:=Lib.hid (Mk.nil V0 w3.heap.size HS0.out.size)
  refine anyI_three 0 1 2 (by kernel_rfl) rfl rfl rfl ?_ ?_ ?_
  ·try simp only [List.getElem_toArray,List.getElem_cons_succ,List.getElem_cons_zero]
   refine opE_step ?_
   rw [if_pos (by rfl)]
   go_simp
   replace HS0:=Lib.hid (HS0.out.alloc HS0.out.size (.cells (zcells 32) 5))
   replace HM:=Lib.hid HM.out.push
   obtain ⟨V0a,hVn⟩:∃ V,V0.alloc (.cells (zcells 32) 5)=V:=⟨_,rfl⟩
   have HzV0a:=Lib.hid (show V0.heap.size < V0a.heap.size by rw [← hVn];simp)
   rw [hVn] at HS0 HM ⊢
   clear hVn
   try dsimp only
   refine ⟨HS0.out,?_⟩
   try simp only [Act.put,List.getElem_toArray,List.getElem_cons_succ,List.getElem_cons_zero,List.setIfInBounds_toArray,List.set_cons_zero,List.set_cons_succ]
   refine anyI_two 1 2 (by kernel_rfl) rfl rfl ?_ ?_
   ·try simp only [List.getElem_toArray,List.getElem_cons_succ,List.getElem_cons_zero]
    refine opE_step ?_
    rw [if_pos (by rfl)]
    go_simp
    replace HS0:=Lib.hid (HS0.out.alloc HS0.out.size (.cells (zcells 32) 5))
    replace HM:=Lib.hid HM.out.push
    obtain ⟨V0ab,hVn⟩:∃ V,V0a.alloc (.cells (zcells 32) 5)=V:=⟨_,rfl⟩
    have HzV0ab:=Lib.hid (show V0a.heap.size < V0ab.heap.size by rw [← hVn];simp)
    rw [hVn] at HS0 HM ⊢
    clear hVn
    try dsimp only
    refine ⟨HS0.out,?_⟩
    try simp only [Act.put,List.getElem_toArray,List.getElem_cons_succ,List.getElem_cons_zero,List.setIfInBounds_toArray,List.set_cons_zero,List.set_cons_succ]
    refine anyI_one 2 (by kernel_rfl) rfl ?_
    try simp only [List.getElem_toArray,List.getElem_cons_succ,List.getElem_cons_zero]
    refine opE_step ?_
    rw [if_pos (by rfl)]
    go_simp
    replace HS0:=Lib.hid (HS0.out.alloc HS0.out.size (.cells (zcells 32) 5))
    replace HM:=Lib.hid HM.out.push
    obtain ⟨V0abc,hVn⟩:∃ V,V0ab.alloc (.cells (zcells 32) 5)=V:=⟨_,rfl⟩
    have HzV0abc:=Lib.hid (show V0ab.heap.size < V0abc.heap.size by rw [← hVn];simp)
    rw [hVn] at HS0 HM ⊢
    clear hVn
    try dsimp only
    refine ⟨HS0.out,?_⟩
    try simp only [Act.put,List.getElem_toArray,List.getElem_cons_succ,List.getElem_cons_zero,List.setIfInBounds_toArray,List.set_cons_zero,List.set_cons_succ]
    refine anyI_one 3 (by kernel_rfl) rfl ?_
    try simp only [List.getElem_toArray,List.getElem_cons_succ,List.getElem_cons_zero]
    refine opE_step ?_
    rw [if_pos (by rfl)]
    go_simp
    have HR:=Lib.hid (HM.out.row [V0.heap.size,V0a.heap.size,V0ab.heap.size] (by simp) (fun b hb=>by simp only [List.mem_cons,List.not_mem_nil,or_false] at hb ⊢;rcases hb with rfl | rfl | rfl <;> simp) (by have hn:=HM.out.nd;simp only [List.nodup_cons,List.mem_cons,List.not_mem_nil,or_false,not_or,List.nodup_nil,and_true,not_false_eq_true] at hn ⊢;omega))
    replace HS0:=Lib.hid (HS0.out.alloc HS0.out.size (.cells #[.slice (some ⟨V0.heap.size,0,none⟩) 32 32,.slice (some ⟨V0a.heap.size,0,none⟩) 32 32,.slice (some ⟨V0ab.heap.size,0,none⟩) 32 32] 35))
    obtain ⟨V0abcr,hVn⟩:∃ V,V0abc.alloc (.cells #[.slice (some ⟨V0.heap.size,0,none⟩) 32 32,.slice (some ⟨V0a.heap.size,0,none⟩) 32 32,.slice (some ⟨V0ab.heap.size,0,none⟩) 32 32] 35)=V:=⟨_,rfl⟩
    have HR2:Hid (Rw w3.heap.size V0abcr V0abc.heap.size 3 3 (fun k=>[V0.heap.size,V0a.heap.size,V0ab.heap.size].getD k 0) (fun _=>32) [z32,z32,z32]):=Lib.hid (by rw [← hVn];exact HR.out)
    rw [hVn] at HS0 ⊢
    clear hVn HR
    try dsimp only
    refine ⟨HS0.out,?_⟩
    try simp only [Act.put,List.getElem_toArray,List.getElem_cons_succ,List.getElem_cons_zero,List.setIfInBounds_toArray,List.set_cons_zero,List.set_cons_succ]
    refine anyI_tail (by kernel_rfl) ?_
    try simp only [List.drop_succ_cons,List.drop_zero]
    clear R
    go_wp2_with fail
    refine NoPanic.normal ?_
    try simp only [Exit.then]
    refine ‹∀ (a:Act) (w:World),Met _ a w→_› _ _ ?_
    go_meet
    exact ⟨_,_,rfl,HR2.out,HS0.out⟩
   ·try simp only [List.getElem_toArray,List.getElem_cons_succ,List.getElem_cons_zero]
    refine opE_step ?_
    rw [if_pos (by rfl)]
    go_simp
    replace HS0:=Lib.hid (HS0.out.alloc HS0.out.size (.cells (zcells 32) 5))
    replace HM:=Lib.hid HM.out.push
    obtain ⟨V0ac,hVn⟩:∃ V,V0a.alloc (.cells (zcells 32) 5)=V:=⟨_,rfl⟩
    have HzV0ac:=Lib.hid (show V0a.heap.size < V0ac.heap.size by rw [← hVn];simp)
    rw [hVn] at HS0 HM ⊢
    clear hVn
    try dsimp only
    refine ⟨HS0.out,?_⟩
    try simp only [Act.put,List.getElem_toArray,List.getElem_cons_succ,List.getElem_cons_zero,List.setIfInBounds_toArray,List.set_cons_zero,List.set_cons_succ]
    refine anyI_one 1 (by kernel_rfl) rfl ?_
    try simp only [List.getElem_toArray,List.getElem_cons_succ,List.getElem_cons_zero]
    refine opE_step ?_
    rw [if_pos (by rfl)]
    go_simp
    replace HS0:=Lib.hid (HS0.out.alloc HS0.out.size (.cells (zcells 32) 5))
    replace HM:=Lib.hid HM.out.push
    obtain ⟨V0acb,hVn⟩:∃ V,V0ac.alloc (.cells (zcells 32) 5)=V:=⟨_,rfl⟩
    have HzV0acb:=Lib.hid (show V0ac.heap.size < V0acb.heap.size by rw [← hVn];simp)
    rw [hVn] at HS0 HM ⊢
    clear hVn
    try dsimp only
    refine ⟨HS0.out,?_⟩
    try simp only [Act.put,List.getElem_toArray,List.getElem_cons_succ,List.getElem_cons_zero,List.setIfInBounds_toArray,List.set_cons_zero,List.set_cons_succ]
    refine anyI_one 3 (by kernel_rfl) rfl ?_
    try simp only [List.getElem_toArray,List.getElem_cons_succ,List.getElem_cons_zero]
    refine opE_step ?_
    rw [if_pos (by rfl)]
    go_simp
    have HR:=Lib.hid (HM.out.row [V0.heap.size,V0ac.heap.size,V0a.heap.size] (by simp) (fun b hb=>by simp only [List.mem_cons,List.not_mem_nil,or_false] at hb ⊢;rcases hb with rfl | rfl | rfl <;> simp) (by have hn:=HM.out.nd;simp only [List.nodup_cons,List.mem_cons,List.not_mem_nil,or_false,not_or,List.nodup_nil,and_true,not_false_eq_true] at hn ⊢;omega))
    replace HS0:=Lib.hid (HS0.out.alloc HS0.out.size (.cells #[.slice (some ⟨V0.heap.size,0,none⟩) 32 32,.slice (some ⟨V0ac.heap.size,0,none⟩) 32 32,.slice (some ⟨V0a.heap.size,0,none⟩) 32 32] 35))
    obtain ⟨V0acbr,hVn⟩:∃ V,V0acb.alloc (.cells #[.slice (some ⟨V0.heap.size,0,none⟩) 32 32,.slice (some ⟨V0ac.heap.size,0,none⟩) 32 32,.slice (some ⟨V0a.heap.size,0,none⟩) 32 32] 35)=V:=⟨_,rfl⟩
    have HR2:Hid (Rw w3.heap.size V0acbr V0acb.heap.size 3 3 (fun k=>[V0.heap.size,V0ac.heap.size,V0a.heap.size].getD k 0) (fun _=>32) [z32,z32,z32]):=Lib.hid (by rw [← hVn];exact HR.out)
    rw [hVn] at HS0 ⊢
    clear hVn HR
    try dsimp only
    refine ⟨HS0.out,?_⟩
    try simp only [Act.put,List.getElem_toArray,List.getElem_cons_succ,List.getElem_cons_zero,List.setIfInBounds_toArray,List.set_cons_zero,List.set_cons_succ]
    refine anyI_tail (by kernel_rfl) ?_
    try simp only [List.drop_succ_cons,List.drop_zero]
    clear R
    go_wp2_with fail
    refine NoPanic.normal ?_
    try simp only [Exit.then]
    refine ‹∀ (a:Act) (w:World),Met _ a w→_› _ _ ?_
    go_meet
    exact ⟨_,_,rfl,HR2.out,HS0.out⟩
  ·try simp only [List.getElem_toArray,List.getElem_cons_succ,List.getElem_cons_zero]
   refine opE_step ?_
   rw [if_pos (by rfl)]
   go_simp
   replace HS0:=Lib.hid (HS0.out.alloc HS0.out.size (.cells (zcells 32) 5))
   replace HM:=Lib.hid HM.out.push
   obtain ⟨V0b,hVn⟩:∃ V,V0.alloc (.cells (zcells 32) 5)=V:=⟨_,rfl⟩
   have HzV0b:=Lib.hid (show V0.heap.size < V0b.heap.size by rw [← hVn];simp)
   rw [hVn] at HS0 HM ⊢
   clear hVn
   try dsimp only
   refine ⟨HS0.out,?_⟩
   try simp only [Act.put,List.getElem_toArray,List.getElem_cons_succ,List.getElem_cons_zero,List.setIfInBounds_toArray,List.set_cons_zero,List.set_cons_succ]
   refine anyI_two 0 2 (by kernel_rfl) rfl rfl ?_ ?_
   ·try simp only [List.getElem_toArray,List.getElem_cons_succ,List.getElem_cons_zero]
    refine opE_step ?_
    rw [if_pos (by rfl)]
    go_simp
    replace HS0:=Lib.hid (HS0.out.alloc HS0.out.size (.cells (zcells 32) 5))
    replace HM:=Lib.hid HM.out.push
    obtain ⟨V0ba,hVn⟩:∃ V,V0b.alloc (.cells (zcells 32) 5)=V:=⟨_,rfl⟩
    have HzV0ba:=Lib.hid (show V0b.heap.size < V0ba.heap.size by rw [← hVn];simp)
    rw [hVn] at HS0 HM ⊢
    clear hVn
    try dsimp only
    refine ⟨HS0.out,?_⟩
    try simp only [Act.put,List.getElem_toArray,List.getElem_cons_succ,List.getElem_cons_zero,List.setIfInBounds_toArray,List.set_cons_zero,List.set_cons_succ]
    refine anyI_one 2 (by kernel_rfl) rfl ?_
    try simp only [List.getElem_toArray,List.getElem_cons_succ,List.getElem_cons_zero]
    refine opE_step ?_
    rw [if_pos (by rfl)]
    go_simp
    replace HS0:=Lib.hid (HS0.out.alloc HS0.out.size (.cells (zcells 32) 5))
    replace HM:=Lib.hid HM.out.push
    obtain ⟨V0bac,hVn⟩:∃ V,V0ba.alloc (.cells (zcells 32) 5)=V:=⟨_,rfl⟩
    have HzV0bac:=Lib.hid (show V0ba.heap.size < V0bac.heap.size by rw [← hVn];simp)
    rw [hVn] at HS0 HM ⊢
    clear hVn
    try dsimp only
    refine ⟨HS0.out,?_⟩
    try simp only [Act.put,List.getElem_toArray,List.getElem_cons_succ,List.getElem_cons_zero,List.setIfInBounds_toArray,List.set_cons_zero,List.set_cons_succ]
    refine anyI_one 3 (by kernel_rfl) rfl ?_
    try simp only [List.getElem_toArray,List.getElem_cons_succ,List.getElem_cons_zero]
    refine opE_step ?_
    rw [if_pos (by rfl)]
    go_simp
    have HR:=Lib.hid (HM.out.row [V0b.heap.size,V0.heap.size,V0ba.heap.size] (by simp) (fun b hb=>by simp only [List.mem_cons,List.not_mem_nil,or_false] at hb ⊢;rcases hb with rfl | rfl | rfl <;> simp) (by have hn:=HM.out.nd;simp only [List.nodup_cons,List.mem_cons,List.not_mem_nil,or_false,not_or,List.nodup_nil,and_true,not_false_eq_true] at hn ⊢;omega))
    replace HS0:=Lib.hid (HS0.out.alloc HS0.out.size (.cells #[.slice (some ⟨V0b.heap.size,0,none⟩) 32 32,.slice (some ⟨V0.heap.size,0,none⟩) 32 32,.slice (some ⟨V0ba.heap.size,0,none⟩) 32 32] 35))
    obtain ⟨V0bacr,hVn⟩:∃ V,V0bac.alloc (.cells #[.slice (some ⟨V0b.heap.size,0,none⟩) 32 32,.slice (some ⟨V0.heap.size,0,none⟩) 32 32,.slice (some ⟨V0ba.heap.size,0,none⟩) 32 32] 35)=V:=⟨_,rfl⟩
    have HR2:Hid (Rw w3.heap.size V0bacr V0bac.heap.size 3 3 (fun k=>[V0b.heap.size,V0.heap.size,V0ba.heap.size].getD k 0) (fun _=>32) [z32,z32,z32]):=Lib.hid (by rw [← hVn];exact HR.out)
    rw [hVn] at HS0 ⊢
    clear hVn HR
    try dsimp only
    refine ⟨HS0.out,?_⟩
    try simp only [Act.put,List.getElem_toArray,List.getElem_cons_succ,List.getElem_cons_zero,List.setIfInBounds_toArray,List.set_cons_zero,List.set_cons_succ]
    refine anyI_tail (by kernel_rfl) ?_
    try simp only [List.drop_succ_cons,List.drop_zero]
    clear R
    go_wp2_with fail
    refine NoPanic.normal ?_
    try simp only [Exit.then]
    refine ‹∀ (a:Act) (w:World),Met _ a w→_› _ _ ?_
    go_meet
    exact ⟨_,_,rfl,HR2.out,HS0.out⟩
   ·try simp only [List.getElem_toArray,List.getElem_cons_succ,List.getElem_cons_zero]
    refine opE_step ?_
    rw [if_pos (by rfl)]
    go_simp
    replace HS0:=Lib.hid (HS0.out.alloc HS0.out.size (.cells (zcells 32) 5))
    replace HM:=Lib.hid HM.out.push
    obtain ⟨V0bc,hVn⟩:∃ V,V0b.alloc (.cells (zcells 32) 5)=V:=⟨_,rfl⟩
    have HzV0bc:=Lib.hid (show V0b.heap.size < V0bc.heap.size by rw [← hVn];simp)
    rw [hVn] at HS0 HM ⊢
    clear hVn
    try dsimp only
    refine ⟨HS0.out,?_⟩
    try simp only [Act.put,List.getElem_toArray,List.getElem_cons_succ,List.getElem_cons_zero,List.setIfInBounds_toArray,List.set_cons_zero,List.set_cons_succ]
    refine anyI_one 0 (by kernel_rfl) rfl ?_
    try simp only [List.getElem_toArray,List.getElem_cons_succ,List.getElem_cons_zero]
    refine opE_step ?_
    rw [if_pos (by rfl)]
    go_simp
    replace HS0:=Lib.hid (HS0.out.alloc HS0.out.size (.cells (zcells 32) 5))
    replace HM:=Lib.hid HM.out.push
    obtain ⟨V0bca,hVn⟩:∃ V,V0bc.alloc (.cells (zcells 32) 5)=V:=⟨_,rfl⟩
    have HzV0bca:=Lib.hid (show V0bc.heap.size < V0bca.heap.size by rw [← hVn];simp)
    rw [hVn] at HS0 HM ⊢
    clear hVn
    try dsimp only
    refine ⟨HS0.out,?_⟩
    try simp only [Act.put,List.getElem_toArray,List.getElem_cons_succ,List.getElem_cons_zero,List.setIfInBounds_toArray,List.set_cons_zero,List.set_cons_succ]
    refine anyI_one 3 (by kernel_rfl) rfl ?_
    try simp only [List.getElem_toArray,List.getElem_cons_succ,List.getElem_cons_zero]
    refine opE_step ?_
    rw [if_pos (by rfl)]
    go_simp
    have HR:=Lib.hid (HM.out.row [V0bc.heap.size,V0.heap.size,V0b.heap.size] (by simp) (fun b hb=>by simp only [List.mem_cons,List.not_mem_nil,or_false] at hb ⊢;rcases hb with rfl | rfl | rfl <;> simp) (by have hn:=HM.out.nd;simp only [List.nodup_cons,List.mem_cons,List.not_mem_nil,or_false,not_or,List.nodup_nil,and_true,not_false_eq_true] at hn ⊢;omega))
    replace HS0:=Lib.hid (HS0.out.alloc HS0.out.size (.cells #[.slice (some ⟨V0bc.heap.size,0,none⟩) 32 32,.slice (some ⟨V0.heap.size,0,none⟩) 32 32,.slice (some ⟨V0b.heap.size,0,none⟩) 32 32] 35))
    obtain ⟨V0bcar,hVn⟩:∃ V,V0bca.alloc (.cells #[.slice (some ⟨V0bc.heap.size,0,none⟩) 32 32,.slice (some ⟨V0.heap.size,0,none⟩) 32 32,.slice (some ⟨V0b.heap.size,0,none⟩) 32 32] 35)=V:=⟨_,rfl⟩
    have HR2:Hid (Rw w3.heap.size V0bcar V0bca.heap.size 3 3 (fun k=>[V0bc.heap.size,V0.heap.size,V0b.heap.size].getD k 0) (fun _=>32) [z32,z32,z32]):=Lib.hid (by rw [← hVn];exact HR.out)
    rw [hVn] at HS0 ⊢
    clear hVn HR
    try dsimp only
    refine ⟨HS0.out,?_⟩
    try simp only [Act.put,List.getElem_toArray,List.getElem_cons_succ,List.getElem_cons_zero,List.setIfInBounds_toArray,List.set_cons_zero,List.set_cons_succ]
    refine anyI_tail (by kernel_rfl) ?_
    try simp only [List.drop_succ_cons,List.drop_zero]
    clear R
    go_wp2_with fail
    refine NoPanic.normal ?_
    try simp only [Exit.then]
    refine ‹∀ (a:Act) (w:World),Met _ a w→_› _ _ ?_
    go_meet
    exact ⟨_,_,rfl,HR2.out,HS0.out⟩
  ·try simp only [List.getElem_toArray,List.getElem_cons_succ,List.getElem_cons_zero]
   refine opE_step ?_
   rw [if_pos (by rfl)]
   go_simp
   replace HS0:=Lib.hid (HS0.out.alloc HS0.out.size (.cells (zcells 32) 5))
   replace HM:=Lib.hid HM.out.push
   obtain ⟨V0c,hVn⟩:∃ V,V0.alloc (.cells (zcells 32) 5)=V:=⟨_,rfl⟩
   have HzV0c:=Lib.hid (show V0.heap.size < V0c.heap.size by rw [← hVn];simp)
   rw [hVn] at HS0 HM ⊢
   clear hVn
   try dsimp only
   refine ⟨HS0.out,?_⟩
   try simp only [Act.put,List.getElem_toArray,List.getElem_cons_succ,List.getElem_cons_zero,List.setIfInBounds_toArray,List.set_cons_zero,List.set_cons_succ]
   refine anyI_two 0 1 (by kernel_rfl) rfl rfl ?_ ?_
   ·try simp only [List.getElem_toArray,List.getElem_cons_succ,List.getElem_cons_zero]
    refine opE_step ?_
    rw [if_pos (by rfl)]
    go_simp
    replace HS0:=Lib.hid (HS0.out.alloc HS0.out.size (.cells (zcells 32) 5))
    replace HM:=Lib.hid HM.out.push
    obtain ⟨V0ca,hVn⟩:∃ V,V0c.alloc (.cells (zcells 32) 5)=V:=⟨_,rfl⟩
    have HzV0ca:=Lib.hid (show V0c.heap.size < V0ca.heap.size by rw [← hVn];simp)
    rw [hVn] at HS0 HM ⊢
    clear hVn
    try dsimp only
    refine ⟨HS0.out,?_⟩
    try simp only [Act.put,List.getElem_toArray,List.getElem_cons_succ,List.getElem_cons_zero,List.setIfInBounds_toArray,List.set_cons_zero,List.set_cons_succ]
    refine anyI_one 1 (by kernel_rfl) rfl ?_
    try simp only [List.getElem_toArray,List.getElem_cons_succ,List.getElem_cons_zero]
    refine opE_step ?_
    rw [if_pos (by rfl)]
    go_simp
    replace HS0:=Lib.hid (HS0.out.alloc HS0.out.size (.cells (zcells 32) 5))
    replace HM:=Lib.hid HM.out.push
    obtain ⟨V0cab,hVn⟩:∃ V,V0ca.alloc (.cells (zcells 32) 5)=V:=⟨_,rfl⟩
    have HzV0cab:=Lib.hid (show V0ca.heap.size < V0cab.heap.size by rw [← hVn];simp)
    rw [hVn] at HS0 HM ⊢
    clear hVn
    try dsimp only
    refine ⟨HS0.out,?_⟩
    try simp only [Act.put,List.getElem_toArray,List.getElem_cons_succ,List.getElem_cons_zero,List.setIfInBounds_toArray,List.set_cons_zero,List.set_cons_succ]
    refine anyI_one 3 (by kernel_rfl) rfl ?_
    try simp only [List.getElem_toArray,List.getElem_cons_succ,List.getElem_cons_zero]
    refine opE_step ?_
    rw [if_pos (by rfl)]
    go_simp
    have HR:=Lib.hid (HM.out.row [V0c.heap.size,V0ca.heap.size,V0.heap.size] (by simp) (fun b hb=>by simp only [List.mem_cons,List.not_mem_nil,or_false] at hb ⊢;rcases hb with rfl | rfl | rfl <;> simp) (by have hn:=HM.out.nd;simp only [List.nodup_cons,List.mem_cons,List.not_mem_nil,or_false,not_or,List.nodup_nil,and_true,not_false_eq_true] at hn ⊢;omega))
    replace HS0:=Lib.hid (HS0.out.alloc HS0.out.size (.cells #[.slice (some ⟨V0c.heap.size,0,none⟩) 32 32,.slice (some ⟨V0ca.heap.size,0,none⟩) 32 32,.slice (some ⟨V0.heap.size,0,none⟩) 32 32] 35))
    obtain ⟨V0cabr,hVn⟩:∃ V,V0cab.alloc (.cells #[.slice (some ⟨V0c.heap.size,0,none⟩) 32 32,.slice (some ⟨V0ca.heap.size,0,none⟩) 32 32,.slice (some ⟨V0.heap.size,0,none⟩) 32 32] 35)=V:=⟨_,rfl⟩
    have HR2:Hid (Rw w3.heap.size V0cabr V0cab.heap.size 3 3 (fun k=>[V0c.heap.size,V0ca.heap.size,V0.heap.size].getD k 0) (fun _=>32) [z32,z32,z32]):=Lib.hid (by rw [← hVn];exact HR.out)
    rw [hVn] at HS0 ⊢
    clear hVn HR
    try dsimp only
    refine ⟨HS0.out,?_⟩
    try simp only [Act.put,List.getElem_toArray,List.getElem_cons_succ,List.getElem_cons_zero,List.setIfInBounds_toArray,List.set_cons_zero,List.set_cons_succ]
    refine anyI_tail (by kernel_rfl) ?_
    try simp only [List.drop_succ_cons,List.drop_zero]
    clear R
    go_wp2_with fail
    refine NoPanic.normal ?_
    try simp only [Exit.then]
    refine ‹∀ (a:Act) (w:World),Met _ a w→_› _ _ ?_
    go_meet
    exact ⟨_,_,rfl,HR2.out,HS0.out⟩
   ·try simp only [List.getElem_toArray,List.getElem_cons_succ,List.getElem_cons_zero]
    refine opE_step ?_
    rw [if_pos (by rfl)]
    go_simp
    replace HS0:=Lib.hid (HS0.out.alloc HS0.out.size (.cells (zcells 32) 5))
    replace HM:=Lib.hid HM.out.push
    obtain ⟨V0cb,hVn⟩:∃ V,V0c.alloc (.cells (zcells 32) 5)=V:=⟨_,rfl⟩
    have HzV0cb:=Lib.hid (show V0c.heap.size < V0cb.heap.size by rw [← hVn];simp)
    rw [hVn] at HS0 HM ⊢
    clear hVn
    try dsimp only
    refine ⟨HS0.out,?_⟩
    try simp only [Act.put,List.getElem_toArray,List.getElem_cons_succ,List.getElem_cons_zero,List.setIfInBounds_toArray,List.set_cons_zero,List.set_cons_succ]
    refine anyI_one 0 (by kernel_rfl) rfl ?_
    try simp only [List.getElem_toArray,List.getElem_cons_succ,List.getElem_cons_zero]
    refine opE_step ?_
    rw [if_pos (by rfl)]
    go_simp
    replace HS0:=Lib.hid (HS0.out.alloc HS0.out.size (.cells (zcells 32) 5))
    replace HM:=Lib.hid HM.out.push
    obtain ⟨V0cba,hVn⟩:∃ V,V0cb.alloc (.cells (zcells 32) 5)=V:=⟨_,rfl⟩
    have HzV0cba:=Lib.hid (show V0cb.heap.size < V0cba.heap.size by rw [← hVn];simp)
    rw [hVn] at HS0 HM ⊢
    clear hVn
    try dsimp only
    refine ⟨HS0.out,?_⟩
    try simp only [Act.put,List.getElem_toArray,List.getElem_cons_succ,List.getElem_cons_zero,List.setIfInBounds_toArray,List.set_cons_zero,List.set_cons_succ]
    refine anyI_one 3 (by kernel_rfl) rfl ?_
    try simp only [List.getElem_toArray,List.getElem_cons_succ,List.getElem_cons_zero]
    refine opE_step ?_
    rw [if_pos (by rfl)]
    go_simp
    have HR:=Lib.hid (HM.out.row [V0cb.heap.size,V0c.heap.size,V0.heap.size] (by simp) (fun b hb=>by simp only [List.mem_cons,List.not_mem_nil,or_false] at hb ⊢;rcases hb with rfl | rfl | rfl <;> simp) (by have hn:=HM.out.nd;simp only [List.nodup_cons,List.mem_cons,List.not_mem_nil,or_false,not_or,List.nodup_nil,and_true,not_false_eq_true] at hn ⊢;omega))
    replace HS0:=Lib.hid (HS0.out.alloc HS0.out.size (.cells #[.slice (some ⟨V0cb.heap.size,0,none⟩) 32 32,.slice (some ⟨V0c.heap.size,0,none⟩) 32 32,.slice (some ⟨V0.heap.size,0,none⟩) 32 32] 35))
    obtain ⟨V0cbar,hVn⟩:∃ V,V0cba.alloc (.cells #[.slice (some ⟨V0cb.heap.size,0,none⟩) 32 32,.slice (some ⟨V0c.heap.size,0,none⟩) 32 32,.slice (some ⟨V0.heap.size,0,none⟩) 32 32] 35)=V:=⟨_,rfl⟩
    have HR2:Hid (Rw w3.heap.size V0cbar V0cba.heap.size 3 3 (fun k=>[V0cb.heap.size,V0c.heap.size,V0.heap.size].getD k 0) (fun _=>32) [z32,z32,z32]):=Lib.hid (by rw [← hVn];exact HR.out)
    rw [hVn] at HS0 ⊢
    clear hVn HR
    try dsimp only
    refine ⟨HS0.out,?_⟩
    try simp only [Act.put,List.getElem_toArray,List.getElem_cons_succ,List.getElem_cons_zero,List.setIfInBounds_toArray,List.set_cons_zero,List.set_cons_succ]
    refine anyI_tail (by kernel_rfl) ?_
    try simp only [List.drop_succ_cons,List.drop_zero]
    clear R
    go_wp2_with fail
    refine NoPanic.normal ?_
    try simp only [Exit.then]
    refine ‹∀ (a:Act) (w:World),Met _ a w→_› _ _ ?_
    go_meet
    exact ⟨_,_,rfl,HR2.out,HS0.out⟩
 case rest =>
  clear hmk
  obtain ⟨g,bk,rfl,hrw,hb⟩:=hcut
  have HE:Hid (ErS w g 3 bk (fun _=>32) v1 b0 [z32,z32,z32] wc):=Lib.hid ⟨O3.out.below hb,hrw.le F3.out.size,fun k e=>⟨by have:=(O3.out.lt k e).2;have:=hrw.glt.1;omega,fun j hj=>by have:=(O3.out.lt k e).2;have:=(hrw.blt j hj).1;omega⟩,F3.out.trans (hb.mono F3.out.size)⟩
  clear hrw hb O3 F3
  go_upto_block 0 with fail
  refine wp_block ?_
  refine erR _ _ _ _ _ _ _ _ _ _ _ _ _ _ _ _ _ _ _ _ _ _ _ _ _ _ _ _ _ _ _ _ _ _ _ _ _ _ _ _ _ _ _ _ _ _ _ _ _ _ _ _ _ _ _ HI.out HL.out HB0.out HM0.out ⟨Nat.zero_le _,by rw [List.take_zero,show plcB []=[] from rfl,List.append_nil];exact HE.out⟩ (fun v8 v9 v31 v32 v33 v34 v35 v36 v37 v38 v39 v40 v41 v42 v43 v44 v45 v46 v47 v48 v49 v50 v51 j v V hI hx=>?_)
  subst hx
  obtain ⟨_,hst⟩:=hI
  rw [List.take_length,← HH.out] at hst
  have HS:=Lib.hid hst
  have CF:=Lib.hid (refFull_n v (hdB s l) (9 + 2 * l.length) w.heap.size V hst.1 HZ.out (by have:=HL.out;omega) hst.2.2.2.size)
  have hlen:(hdB s l ++ List.replicate (32 - (9 + 2 * l.length)) 0).length=32:=by rw [List.length_append,HZ.out,List.length_replicate];have:=HL.out;omega
  generalize hdB s l ++ List.replicate (32 - (9 + 2 * l.length)) 0=fb at CF hlen HB
  have HFl:=Lib.hid hlen
  clear hst hlen HE HI HM0 HB0 HZ HH
  go_wp2_with fail
  (with_reducible refine CF.out.mono ?_);rintro e w5 ⟨v5,rfl,o5,g5⟩
  have HP5:=Lib.hid (HS.out.2.1.grown g5 (fun e=>(HS.out.2.2.1 g e).1 rfl) (fun k hk e=>(HS.out.2.2.1 _ e).2 k hk rfl))
  have F5:=Lib.hid (HS.out.2.2.2.grown g5 HS.out.2.2.2.size (fun k e=>(HS.out.1.lt k e).1))
  obtain ⟨A5,c5,rfl,hc5,hr5⟩:=o5.rd
  have CS:=Lib.hid (refSealed_n A5 (some ⟨g,0,none⟩) fb.length c5 3 fb (partsB l) 3 w5 HFl.out HPl.out (by omega) HFl.out hr5 HP5.out.rdc.rdr)
  have HSl:=Lib.hid (stamped_len fb (partsB l) HFl.out)
  generalize stamped fb (partsB l)=st at CS HSl HB
  generalize fb.length=fl at CS
  clear o5 g5 hc5 hr5 CF HS HFl
  go_wp2_with fail
  (with_reducible refine CS.out.mono ?_);rintro e w6 ⟨v6,rfl,o6,hb6⟩
  obtain ⟨gs,cs,rfl,hBg,hglt,hcap,hcm,_⟩:=o6.pos (by rw [HSl.out];omega)
  rw [HSl.out] at o6 hcap ⊢
  have HP6:=Lib.hid (HP5.out.below hb6)
  have F6:=Lib.hid (F5.out.trans (hb6.mono F5.out.size))
  have HO6:=Lib.hid (o6.le F5.out.size)
  have HGS:=Lib.hid (show ∀ k,k < 3→gs ≠ bk k from fun k hk=>by have:=(HP5.out.blt k hk).2;omega)
  have B7:=below1 w6 (.cells #[.slice (some ⟨gs,0,none⟩) 32 cs] 35)
  have HB7:=Lib.hid B7
  have HOW:=Lib.hid (World.ownsRow_lit (base:=w.heap.size) (e:=35) (size:=1) w6 #[.slice (some ⟨gs,0,none⟩) 32 cs] 1 F6.out.size (by unfold maxLen;omega) rfl)
  have HV:=Lib.hid ((HP6.out.below B7).rdv)
  have hz7:w.heap.size ≤ (w6.alloc (.cells #[.slice (some ⟨gs,0,none⟩) 32 cs] 35)).heap.size:=Nat.le_trans F6.out.size B7.size
  have Hz7:=Lib.hid hz7
  clear B7 hz7 o6 hb6 hBg hglt hcap hcm CS HP5 F5
  go_wp2_with (
   (at_builtin
    refine wpList_append_V (by rfl) _ _ _ (by rfl) w.heap.size 35 (.slice none 0 0) 24 Tryz.underlying32 info_row rfl (.slice (some ⟨w6.heap.size,0,none⟩) 1 1) 1 [.slice (some ⟨gs,0,none⟩) 32 cs] (by rfl) HOW.out _ (some ⟨g,0,none⟩) 3 3 (rwvs bk (fun _=>32) 3) (by rfl) (by rfl) HV.out (rwvs_one _ _ _) (by unfold maxLen;omega) (by omega) Hz7.out ?_
    intro v8 w8 r8 g8 hat8
    have F8:=Lib.hid (HB7.out.grown g8 HB7.out.size (fun k e=>by
     have e2:w6.heap.size=k:=by injection e with e
     omega))
    obtain ⟨g9,cap9,bk9,cp9,rfl,hR9⟩:=rw_cons HP6.out HO6.out HSl.out HGS.out (by omega) r8 F8.out (fun q hq=>by
     rcases hat8 with h | h
     ·rw [h] at hq
      have e2:w6.heap.size=q:=by injection hq
      omega
     ·rw [h] at hq
      have e2:(w6.alloc (.cells #[.slice (some ⟨gs,0,none⟩) 32 cs] 35)).heap.size=q:=by injection hq
      have:=HB7.out.size
      omega)
    have HR9:=Lib.hid hR9
    clear hR9))
  go_ret2
  exact ⟨_,_,_,_,rfl,by rw [HB.out];exact HR9.out,F6.out.trans (F8.out.mono F6.out.size)⟩
end Go.Proofs.YtenkkdnepmoihaaGreatDoor
end
section
set_option linter.unusedVariables false
set_option linter.unusedSimpArgs false
namespace Go.Proofs.YtenkkdnepmoihaaGreatDoor
open Go.RowKit
theorem rcO_len {rs:List (List UInt8)} (h:rs.length ≠ 4):rcO rs=false:=rcO_not fun q=>h ((sect_iff rs).1 q.1).1
theorem rcO_32 {rs:List (List UInt8)} (k:Nat) (hk:k < rs.length) (h:(rs.getD k []).length ≠ 32):rcO rs=false:=rcO_not fun q=>h (((sect_iff rs).1 q.1).2 _ (by
 rw [List.getD_eq_getElem?_getD,List.getElem?_eq_getElem hk];exact List.getElem_mem hk))
theorem rcO_cn {rs:List (List UInt8)} (h:3 < cnO rs):rcO rs=false:=rcO_not fun q=>by
 have h3:=((recOk_iff _ _).1 q.2.1).1.2.2
 have:=cnO_recB (s:=sqO rs) h3
 rw [q.2.2,itsO,itsN_len] at this
 omega
theorem itsO_cn {rs:List (List UInt8)} (h:cnO rs ≤ 3):itsO rs=itsN rs (cnO rs):=by unfold itsO;rw [Nat.min_eq_left h]
theorem rcO_bad {rs:List (List UInt8)} (h3:cnO rs ≤ 3) (h:recOk (sqO rs) (itsN rs (cnO rs))=false):rcO rs=false:=rcO_not fun q=>by
 have h2:=q.2.1;rw [itsO_cn h3,h] at h2;cases h2
theorem rcO_ne {rs:List (List UInt8)} (h3:cnO rs ≤ 3) (k:Nat) (h:(recB (sqO rs) (itsN rs (cnO rs))).getD k [] ≠ rs.getD k []):rcO rs=false:=rcO_not fun q=>by
 have h2:=q.2.2;rw [itsO_cn h3] at h2;exact h (by rw [h2])
theorem rcO_all {rs:List (List UInt8)} (h4:rs.length=4) (h32:∀ k,k < 4→(rs.getD k []).length=32) (h3:cnO rs ≤ 3) (h:recOk (sqO rs) (itsN rs (cnO rs))=true) (he:∀ k,k < 4→(recB (sqO rs) (itsN rs (cnO rs))).getD k []=rs.getD k []):rcO rs=true:=by
 refine (rcO_iff rs).2 ⟨(sect_iff rs).2 ⟨h4,fun x hx=>?_⟩,by rw [itsO_cn h3];exact h,by rw [itsO_cn h3];exact rs_ext ((recB_len ((recOk_iff _ _).1 h).1.2.2).trans h4.symm) (fun k hk=>he k (by rw [recB_len ((recOk_iff _ _).1 h).1.2.2] at hk;exact hk))⟩
 obtain ⟨k,hk,rfl⟩:=List.getElem_of_mem hx
 have:=h32 k (by omega)
 rwa [List.getD_eq_getElem?_getD,List.getElem?_eq_getElem hk] at this
def DrP (w:World) (s:Int) (l:List It) (b:Bool) (e:Ending) (w':World):Prop:=∃ v,e=.returned (.tuple #[.int .i64 s,v,.bool b])∧OwIt 125 w' w.heap.size w.heap.size v l∧Below w.heap.size w w'
theorem DrP.no {w w':World} (hb:Below w.heap.size w w'):DrP w 0 [] false (.returned (.tuple #[.int .i64 0,.slice none 0 0,.bool false])) w':=⟨_,rfl,OwIt.nil _ _ _ _,hb⟩
set_option maxRecDepth 100000 in
set_option maxHeartbeats 16000000 in
theorem refDecRec_any (A:Option Addr) (n c:Nat) (rs:List (List UInt8)) (w:World) (hn:rs.length=n) (h:RdC w w.heap.size A rs) :
    Calls Tryz.prog 57 #[.slice A n c] w (DrP w (rcS rs) (rcL rs) (rcO rs)):=by
 have H:=Lib.hid h
 have hmx:=h.1
 have HL:=Lib.hid (@rcO_len rs)
 have H3:=Lib.hid (@rcO_32 rs)
 have HC:=Lib.hid (@rcO_cn rs)
 have HB:=Lib.hid (@rcO_bad rs)
 have HN:=Lib.hid (@rcO_ne rs)
 have HA:=Lib.hid (@rcO_all rs)
 have HR:=Lib.hid (show rcO rs=true→rcS rs=sqO rs∧rcL rs=itsO rs from fun q=>⟨if_pos q,if_pos q⟩)
 have HR':=Lib.hid (show rcO rs=false→rcS rs=0∧rcL rs=[] from fun q=>by unfold rcS rcL;rw [q];exact ⟨rfl,rfl⟩)
 generalize rcS rs=fs at HR HR'
 generalize rcL rs=fl at HR HR'
 generalize rcO rs=dec at HL H3 HC HB HN HA HR HR'
 clear h
 by_cases h4:n=4
 ·subst h4
  have Hn:=Lib.hid hn
  clear HL hn
  go_enter Tryz.func57,Tryz.ntmps57
  go_wp2
  go_loopw [19] (fun i wr=>∃ j:Nat,j ≤ 4∧i=.int .i64 j∧(∀ k,k < j→(rs.getD k []).length=32)∧w=wr) (fun i _=>4 - (intOf i).toNat)
  case atStart=>exact ⟨0,by omega,rfl,fun k hk=>absurd hk (Nat.not_lt_zero _),rfl⟩
  case round =>
   obtain ⟨j,hj,rfl,hall,rfl⟩:=hrel
   have Hall:=Lib.hid hall
   clear hall
   obtain ⟨b,off,rfl,hb,hc⟩:=H.out.2 (by rw [Hn.out];omega)
   by_cases hlt:j < 4
   ·obtain ⟨D,cd,e1,hcap,hrd⟩:=hc j (by rw [Hn.out];exact hlt)
    have k0:(0:Int) ≤ (j:Int):=by omega
    have k1:(j:Int) < 4:=by omega
    by_cases h32:(rs.getD j []).length=32
    ·have Hg:=Lib.hid (show ∀ k,k < j + 1→(rs.getD k []).length=32 from fun k hk=>by
       by_cases e:k=j
       ·subst e;exact h32
       ·exact Hall.out k (by omega))
     rw [h32] at e1
     clear hc hcap hrd h32
     go_wp2
     go_roundw
     case rel=>exact ⟨j + 1,by omega,by go_num,Hg.out,trivial⟩
     case measure=>simp [intOf];omega
    ·obtain rfl:dec=false:=H3.out j (by rw [Hn.out];exact hlt) h32
     obtain ⟨rfl,rfl⟩:=HR'.out rfl
     have t:(((rs.getD j []).length:Int) != 32)=true:=by rw [bne_iff_ne];omega
     generalize (rs.getD j []).length=m at e1 t
     clear hc hcap hrd h32 HR HR'
     go_wp2
     go_ret3
     exact DrP.no (Below.refl _ _)
   ·obtain rfl:j=4:=by omega
    obtain ⟨D0,c0,e0,hcap0,hrd0⟩:=hc 0 (by rw [Hn.out];omega)
    have h320:=Hall.out 0 (by omega)
    obtain ⟨b0,o0,rfl,hb0,hx⟩:=hrd0.2 (by rw [h320];omega)
    rw [h320] at e0 hcap0
    have HX:=Lib.hid (show ∀ i,i < 32→w.cell? ⟨b0,o0 + i,none⟩=some (.int .u8 (((rs.getD 0 []).getD i 0).toNat:Int)) from fun i hi=>hx i (by rw [h320];exact hi))
    have x8:=HX.out 8 (by omega)
    rw [show ((rs.getD 0 []).getD 8 0).toNat=cnO rs from rfl] at x8
    have E0:=Lib.hid e0
    have HCn:=Lib.hid hc
    have Hcap:=Lib.hid hcap0
    rw [Nat.add_zero] at e0
    have kc:((cnO rs:Nat):Int) < 256:=by have:((rs.getD 0 []).getD 8 0).toNat < 256:=UInt8.toNat_lt _;unfold cnO;omega
    generalize hcn:cnO rs=cn at x8 HC HB HN HA kc
    have Hcn:=Lib.hid hcn
    clear hc hx hrd0 h320 hcn hcap0
    by_cases h3:3 < cn
    ·obtain rfl:dec=false:=HC.out h3
     obtain ⟨rfl,rfl⟩:=HR'.out rfl
     have k3:(3:Int) < (cn:Int):=by omega
     clear HR HR' HC HB HN HA
     go_wp2
     go_ret3
     exact DrP.no (Below.refl _ _)
    ·have k3:¬ (3:Int) < (cn:Int):=by omega
     have k3':(cn:Int) ≤ 3:=by omega
     have h3':cn ≤ 3:=by omega
     clear H3 HC h3 kc
     go_wp2
     clear k3 x8 e0
     go_loopw [9,10] (fun v i wi=>∃ k:Nat,k ≤ cn∧i=.int .i64 k∧OwIt 125 wi w.heap.size w.heap.size v (itsN rs k)∧Below w.heap.size w wi) (fun _ i _=>cn - (intOf i).toNat)
     case atStart=>exact ⟨0,Nat.zero_le _,rfl,OwIt.nil _ _ _ _,Below.refl _ _⟩
     case round =>
      obtain ⟨k,hk,rfl,ho,hbr⟩:=hrel
      rename World=>wi
      by_cases hkc:k < cn
      ·obtain ⟨D2,c2,e2,hcap2,hrd2⟩:=HCn.out (1 + k) (by rw [Hn.out];omega)
       have hy:=Hall.out (1 + k) (by omega)
       rw [hy] at e2
       have HC1:=Lib.hid (fun V (hV:Below w.heap.size w V)=>(hV.cell (p:=⟨b0,o0 + (9 + 2 * k),none⟩) hb0).trans (HX.out (9 + 2 * k) (by omega)))
       have HC2:=Lib.hid (fun V (hV:Below w.heap.size w V)=>(hV.cell (p:=⟨b0,o0 + (10 + 2 * k),none⟩) hb0).trans (HX.out (10 + 2 * k) (by omega)))
       have HC3:=Lib.hid (fun V (hV:Below w.heap.size w V)=>(hV.cell (p:=⟨b,off + (1 + k),none⟩) hb).trans e2)
       have Hit:=Lib.hid (itsN_succ rs k)
       have Hio:=Lib.hid (show itO rs k=⟨(((rs.getD 0 []).getD (9 + 2 * k) 0).toNat:Int),(((rs.getD 0 []).getD (10 + 2 * k) 0).toNat:Int),rs.getD (1 + k) []⟩ from rfl)
       have HLk:=Lib.hid (itsN_len rs k)
       generalize (rs.getD 0 []).getD (9 + 2 * k) 0=ub at HC1 Hio
       generalize (rs.getD 0 []).getD (10 + 2 * k) 0=uc at HC2 Hio
       generalize rs.getD (1 + k) []=y at hrd2 hy Hio
       generalize itsN rs k=lk at ho Hit HLk
       have HY:=Lib.hid hy
       have HRD:=Lib.hid hrd2
       have k0:(0:Int) ≤ (k:Int):=by omega
       have kk:(k:Int) < (cn:Int):=by omega
       have k2:IntKind.i64.wrap (2 * (k:Int))=2 * (k:Int):=by rw [IntKind.wrap_i64];omega
       have k9:IntKind.i64.wrap (9 + 2 * (k:Int))=9 + 2 * (k:Int):=by rw [IntKind.wrap_i64];omega
       have k9a:0 ≤ 9 + 2 * (k:Int)∧9 + 2 * (k:Int) < 32:=by omega
       have k9b:(9 + 2 * (k:Int)).toNat=9 + 2 * k:=by omega
       have k10:IntKind.i64.wrap (10 + 2 * (k:Int))=10 + 2 * (k:Int):=by rw [IntKind.wrap_i64];omega
       have k10a:0 ≤ 10 + 2 * (k:Int)∧10 + 2 * (k:Int) < 32:=by omega
       have k10b:(10 + 2 * (k:Int)).toNat=10 + 2 * k:=by omega
       have k1:IntKind.i64.wrap (1 + (k:Int))=1 + (k:Int):=by rw [IntKind.wrap_i64];omega
       have k1a:0 ≤ 1 + (k:Int)∧1 + (k:Int) < 4:=by omega
       have k1b:(1 + (k:Int)).toNat=1 + k:=by omega
       have mu:IntKind.i64.wrap (ub.toNat:Int)=(ub.toNat:Int):=by have:ub.toNat < 256:=ub.toNat_lt;rw [IntKind.wrap_i64];omega
       have mc:IntKind.i64.wrap (uc.toNat:Int)=(uc.toNat:Int):=by have:uc.toNat < 256:=uc.toNat_lt;rw [IntKind.wrap_i64];omega
       clear e2 hy hrd2 hcap2
       go_wp2_with fail
       refine wp_region_noPanic (region_ord 23 [] (fun V=>OwIt 125 V w.heap.size w.heap.size u9 lk∧Below w.heap.size w V) (by kernel_rfl) (by kernel_rfl) (fun _ _ _ _ _ h=>h) fun R=>?_)
       change anyI _ _ _ _ _ _ 25 _ _ wi.drew
       have HS0:=Lib.hid (show (fun V=>OwIt 125 V w.heap.size w.heap.size u9 lk∧Below w.heap.size w V) wi.drew from ⟨ho.below (Below.refl _ _).drew,hbr.drew⟩)
       refine' anyI_take R 0 rfl (v:=?_) (by kernel_rfl) (by rfl) (fun V hV=>?hy) HS0.out ?_
       case hy=>((try dsimp only at hV); have p0:=HC1.out V hV.2;have p1:=HC2.out V hV.2;have p2:=HC3.out V hV.2;go_simp;try with_reducible rfl)
       try simp only [Act.put,List.getElem_toArray,List.getElem_cons_succ,List.getElem_cons_zero,List.setIfInBounds_toArray,List.set_cons_zero,List.set_cons_succ]
       refine' anyI_take R 1 rfl (v:=?_) (by kernel_rfl) (by rfl) (fun V hV=>?hy) HS0.out ?_
       case hy=>((try dsimp only at hV); have p0:=HC1.out V hV.2;have p1:=HC2.out V hV.2;have p2:=HC3.out V hV.2;go_simp;try with_reducible rfl)
       try simp only [Act.put,List.getElem_toArray,List.getElem_cons_succ,List.getElem_cons_zero,List.setIfInBounds_toArray,List.set_cons_zero,List.set_cons_succ]
       refine' anyI_take R 2 rfl (v:=?_) (by kernel_rfl) (by rfl) (fun V hV=>?hy) HS0.out ?_
       case hy=>((try dsimp only at hV); have p0:=HC1.out V hV.2;have p1:=HC2.out V hV.2;have p2:=HC3.out V hV.2;go_simp;try with_reducible rfl)
       try simp only [Act.put,List.getElem_toArray,List.getElem_cons_succ,List.getElem_cons_zero,List.setIfInBounds_toArray,List.set_cons_zero,List.set_cons_succ]
       refine' anyI_take R 3 rfl (v:=?_) (by kernel_rfl) (by rfl) (fun V hV=>?hy) HS0.out ?_
       case hy=>((try dsimp only at hV); have p0:=HC1.out V hV.2;have p1:=HC2.out V hV.2;have p2:=HC3.out V hV.2;go_simp;try with_reducible rfl)
       try simp only [Act.put,List.getElem_toArray,List.getElem_cons_succ,List.getElem_cons_zero,List.setIfInBounds_toArray,List.set_cons_zero,List.set_cons_succ]
       refine' anyI_take R 4 rfl (v:=?_) (by kernel_rfl) (by rfl) (fun V hV=>?hy) HS0.out ?_
       case hy=>((try dsimp only at hV); have p0:=HC1.out V hV.2;have p1:=HC2.out V hV.2;have p2:=HC3.out V hV.2;go_simp;try with_reducible rfl)
       try simp only [Act.put,List.getElem_toArray,List.getElem_cons_succ,List.getElem_cons_zero,List.setIfInBounds_toArray,List.set_cons_zero,List.set_cons_succ]
       refine' anyI_take R 5 rfl (v:=?_) (by kernel_rfl) (by rfl) (fun V hV=>?hy) HS0.out ?_
       case hy=>((try dsimp only at hV); have p0:=HC1.out V hV.2;have p1:=HC2.out V hV.2;have p2:=HC3.out V hV.2;go_simp;try with_reducible rfl)
       try simp only [Act.put,List.getElem_toArray,List.getElem_cons_succ,List.getElem_cons_zero,List.setIfInBounds_toArray,List.set_cons_zero,List.set_cons_succ]
       refine' anyI_take R 6 rfl (v:=?_) (by kernel_rfl) (by rfl) (fun V hV=>?hy) HS0.out ?_
       case hy=>((try dsimp only at hV); have p0:=HC1.out V hV.2;have p1:=HC2.out V hV.2;have p2:=HC3.out V hV.2;go_simp;try with_reducible rfl)
       try simp only [Act.put,List.getElem_toArray,List.getElem_cons_succ,List.getElem_cons_zero,List.setIfInBounds_toArray,List.set_cons_zero,List.set_cons_succ]
       refine' anyI_take R 7 rfl (v:=?_) (by kernel_rfl) (by rfl) (fun V hV=>?hy) HS0.out ?_
       case hy=>((try dsimp only at hV); have p0:=HC1.out V hV.2;have p1:=HC2.out V hV.2;have p2:=HC3.out V hV.2;go_simp;try with_reducible rfl)
       try simp only [Act.put,List.getElem_toArray,List.getElem_cons_succ,List.getElem_cons_zero,List.setIfInBounds_toArray,List.set_cons_zero,List.set_cons_succ]
       refine' anyI_take R 8 rfl (v:=?_) (by kernel_rfl) (by rfl) (fun V hV=>?hy) HS0.out ?_
       case hy=>((try dsimp only at hV); have p0:=HC1.out V hV.2;have p1:=HC2.out V hV.2;have p2:=HC3.out V hV.2;go_simp;try with_reducible rfl)
       try simp only [Act.put,List.getElem_toArray,List.getElem_cons_succ,List.getElem_cons_zero,List.setIfInBounds_toArray,List.set_cons_zero,List.set_cons_succ]
       refine' anyI_take R 9 rfl (v:=?_) (by kernel_rfl) (by rfl) (fun V hV=>?hy) HS0.out ?_
       case hy=>((try dsimp only at hV); have p0:=HC1.out V hV.2;have p1:=HC2.out V hV.2;have p2:=HC3.out V hV.2;go_simp;try with_reducible rfl)
       try simp only [Act.put,List.getElem_toArray,List.getElem_cons_succ,List.getElem_cons_zero,List.setIfInBounds_toArray,List.set_cons_zero,List.set_cons_succ]
       refine' anyI_take R 10 rfl (v:=?_) (by kernel_rfl) (by rfl) (fun V hV=>?hy) HS0.out ?_
       case hy=>((try dsimp only at hV); have p0:=HC1.out V hV.2;have p1:=HC2.out V hV.2;have p2:=HC3.out V hV.2;go_simp;try with_reducible rfl)
       try simp only [Act.put,List.getElem_toArray,List.getElem_cons_succ,List.getElem_cons_zero,List.setIfInBounds_toArray,List.set_cons_zero,List.set_cons_succ]
       refine' anyI_take R 11 rfl (v:=?_) (by kernel_rfl) (by rfl) (fun V hV=>?hy) HS0.out ?_
       case hy=>((try dsimp only at hV); have p0:=HC1.out V hV.2;have p1:=HC2.out V hV.2;have p2:=HC3.out V hV.2;go_simp;try with_reducible rfl)
       try simp only [Act.put,List.getElem_toArray,List.getElem_cons_succ,List.getElem_cons_zero,List.setIfInBounds_toArray,List.set_cons_zero,List.set_cons_succ]
       refine' anyI_take R 12 rfl (v:=?_) (by kernel_rfl) (by rfl) (fun V hV=>?hy) HS0.out ?_
       case hy=>((try dsimp only at hV); have p0:=HC1.out V hV.2;have p1:=HC2.out V hV.2;have p2:=HC3.out V hV.2;go_simp;try with_reducible rfl)
       try simp only [Act.put,List.getElem_toArray,List.getElem_cons_succ,List.getElem_cons_zero,List.setIfInBounds_toArray,List.set_cons_zero,List.set_cons_succ]
       refine' anyI_take R 13 rfl (v:=?_) (by kernel_rfl) (by rfl) (fun V hV=>?hy) HS0.out ?_
       case hy=>((try dsimp only at hV); have p0:=HC1.out V hV.2;have p1:=HC2.out V hV.2;have p2:=HC3.out V hV.2;go_simp;try with_reducible rfl)
       try simp only [Act.put,List.getElem_toArray,List.getElem_cons_succ,List.getElem_cons_zero,List.setIfInBounds_toArray,List.set_cons_zero,List.set_cons_succ]
       refine' anyI_take R 14 rfl (v:=?_) (by kernel_rfl) (by rfl) (fun V hV=>?hy) HS0.out ?_
       case hy=>((try dsimp only at hV); have p0:=HC1.out V hV.2;have p1:=HC2.out V hV.2;have p2:=HC3.out V hV.2;go_simp;try with_reducible rfl)
       try simp only [Act.put,List.getElem_toArray,List.getElem_cons_succ,List.getElem_cons_zero,List.setIfInBounds_toArray,List.set_cons_zero,List.set_cons_succ]
       refine' anyI_take R 15 rfl (v:=?_) (by kernel_rfl) (by rfl) (fun V hV=>?hy) HS0.out ?_
       case hy=>((try dsimp only at hV); have p0:=HC1.out V hV.2;have p1:=HC2.out V hV.2;have p2:=HC3.out V hV.2;go_simp;try with_reducible rfl)
       try simp only [Act.put,List.getElem_toArray,List.getElem_cons_succ,List.getElem_cons_zero,List.setIfInBounds_toArray,List.set_cons_zero,List.set_cons_succ]
       refine' anyI_take R 16 rfl (v:=?_) (by kernel_rfl) (by rfl) (fun V hV=>?hy) HS0.out ?_
       case hy=>((try dsimp only at hV); have p0:=HC1.out V hV.2;have p1:=HC2.out V hV.2;have p2:=HC3.out V hV.2;go_simp;try with_reducible rfl)
       try simp only [Act.put,List.getElem_toArray,List.getElem_cons_succ,List.getElem_cons_zero,List.setIfInBounds_toArray,List.set_cons_zero,List.set_cons_succ]
       refine' anyI_take R 17 rfl (v:=?_) (by kernel_rfl) (by rfl) (fun V hV=>?hy) HS0.out ?_
       case hy=>((try dsimp only at hV); have p0:=HC1.out V hV.2;have p1:=HC2.out V hV.2;have p2:=HC3.out V hV.2;go_simp;try with_reducible rfl)
       try simp only [Act.put,List.getElem_toArray,List.getElem_cons_succ,List.getElem_cons_zero,List.setIfInBounds_toArray,List.set_cons_zero,List.set_cons_succ]
       refine' anyI_take R 18 rfl (v:=?_) (by kernel_rfl) (by rfl) (fun V hV=>?hy) HS0.out ?_
       case hy=>((try dsimp only at hV); have p0:=HC1.out V hV.2;have p1:=HC2.out V hV.2;have p2:=HC3.out V hV.2;go_simp;try with_reducible rfl)
       try simp only [Act.put,List.getElem_toArray,List.getElem_cons_succ,List.getElem_cons_zero,List.setIfInBounds_toArray,List.set_cons_zero,List.set_cons_succ]
       refine' anyI_take R 19 rfl (v:=?_) (by kernel_rfl) (by rfl) (fun V hV=>?hy) HS0.out ?_
       case hy=>((try dsimp only at hV); have p0:=HC1.out V hV.2;have p1:=HC2.out V hV.2;have p2:=HC3.out V hV.2;go_simp;try with_reducible rfl)
       try simp only [Act.put,List.getElem_toArray,List.getElem_cons_succ,List.getElem_cons_zero,List.setIfInBounds_toArray,List.set_cons_zero,List.set_cons_succ]
       refine anyI_one 20 (by kernel_rfl) rfl ?_
       try simp only [List.getElem_toArray,List.getElem_cons_succ,List.getElem_cons_zero]
       refine opE_step ?_
       refine step_append_B _ rfl _ _ _ rfl w.heap.size 5 Tryz.underlying35 info_u8 (.slice none 0 0) [] rfl (OwB.nil _ _ _) _ D2 32 c2 y rfl HY.out.symm (HRD.out.below HS0.out.2 (Nat.le_refl _)) (by rw [HY.out];simp) HS0.out.2.size ?_
       intro va wa Oa ga ha
       rw [List.nil_append] at Oa
       have hbA:=(Below.refl (wi.drew.heap.size) wi.drew).grown ga (Nat.le_refl _) (by simp [Value.ownBlock])
       obtain ⟨gA,cA,rfl,hBg,hgl,hcap,hcm,hrd⟩:=Oa.pos (by rw [HY.out];omega)
       rw [HY.out] at Oa hcap ⊢
       have hgA:wi.drew.heap.size=gA:=by
        rcases ha with h | h
        ·cases h
        ·injection h with h;exact h.symm
       have HGA:=Lib.hid (show ∀ q,u9.ownBlock=some q→q ≠ gA from fun q e=>by have:=(HS0.out.1.lt q e).2;omega)
       replace HS0:=Lib.hid (And.intro (HS0.out.1.below hbA) (HS0.out.2.trans (hbA.mono HS0.out.2.size)))
       have HRA:=Lib.hid hrd
       have HCA:=Lib.hid (And.intro hcap hBg)
       clear Oa ga ha hbA hBg hgl hcap hcm hrd hgA
       try dsimp only
       refine ⟨HS0.out,?_⟩
       try simp only [Act.put,List.getElem_toArray,List.getElem_cons_succ,List.getElem_cons_zero,List.setIfInBounds_toArray,List.set_cons_zero,List.set_cons_succ]
       refine' anyI_take R 21 rfl (v:=?_) (by kernel_rfl) (by rfl) (fun V hV=>?hy) HS0.out ?_
       case hy=>((try dsimp only at hV); have p0:=HC1.out V hV.2;have p1:=HC2.out V hV.2;have p2:=HC3.out V hV.2;go_simp;try with_reducible rfl)
       try simp only [Act.put,List.getElem_toArray,List.getElem_cons_succ,List.getElem_cons_zero,List.setIfInBounds_toArray,List.set_cons_zero,List.set_cons_succ]
       refine anyI_one 22 (by kernel_rfl) rfl ?_
       try simp only [List.getElem_toArray,List.getElem_cons_succ,List.getElem_cons_zero]
       refine opE_step ?_
       rw [if_pos (by rfl)]
       go_simp
       have HZA:=Lib.hid HS0.out.2.size
       replace HS0:=Lib.hid (And.intro (HS0.out.1.below (below1 wa (.cells #[.int .i64 (ub.toNat:Int),.int .i64 (uc.toNat:Int),.slice (some ⟨gA,0,none⟩) 32 cA] 125))) (HS0.out.2.alloc HS0.out.2.size (.cells #[.int .i64 (ub.toNat:Int),.int .i64 (uc.toNat:Int),.slice (some ⟨gA,0,none⟩) 32 cA] 125)))
       try dsimp only
       refine ⟨HS0.out,?_⟩
       try simp only [Act.put,List.getElem_toArray,List.getElem_cons_succ,List.getElem_cons_zero,List.setIfInBounds_toArray,List.set_cons_zero,List.set_cons_succ]
       refine anyI_tail (by kernel_rfl) ?_
       try simp only [List.drop_succ_cons,List.drop_zero]
       clear R
       clear k2 k9 k9a k9b k10 k10a k10b k1 k1a k1b
       have HA9:=Lib.hid HS0.out
       have HNs:=Lib.hid (fun ob (hob:ob=u9.ownBlock)=>src_one (w:=wa.alloc (.cells #[.int .i64 (ub.toNat:Int),.int .i64 (uc.toNat:Int),.slice (some ⟨gA,0,none⟩) 32 cA] 125)) (lo:=w.heap.size) (g:=wa.heap.size) (ob:=ob) (x:=⟨(ub.toNat:Int),(uc.toNat:Int),y⟩) (D:=some ⟨gA,0,none⟩) (c:=cA) (by dsimp only;rw [HY.out];exact heap_alloc_new _ _) ((HRA.out.below (below1 wa _) (Nat.le_refl _)).more (by simp)) (by dsimp only;rw [HY.out];exact HCA.out.1) (fun _ a ha=>by
        injection ha with ha
        subst ha
        exact ⟨fun e=>HGA.out gA (by rw [hob] at e;exact e.symm) rfl,HCA.out.2⟩))
       go_wp2_with (
        ((with_reducible refine (id ?_:wpList _ _ _ (⟨some 64,_,_,_,_,_⟩::_) _ _));refine wpList_append_I _ (by rfl) _ _ _ (by rfl) w.heap.size w.heap.size 125 Tryz.underlying95 infoRI u9 _ (by rfl) HA9.out.1 (some ⟨wa.heap.size,0,none⟩) 1 1 _ (by rfl) (by rfl) (HNs.out _ rfl) (by rw [HLk.out];show k + 1 ≤ _;omega) HA9.out.2.size ?_
         intro v4 w4 O4 g4 _))
       refine NoPanic.normal ?_
       go_wp2
       go_roundw
       case rel=>exact ⟨k + 1,by omega,by go_num,by rw [Hit.out,Hio.out];exact O4,HA9.out.2.grown g4 HA9.out.2.size (fun k e=>(HA9.out.1.lt k e).1)⟩
       case measure=>simp [intOf];omega
      ·obtain rfl:k=cn:=by omega
       obtain ⟨Av,cv,rfl,hcv,rdv⟩:=ho.rd
       have hlk:=itsN_len rs k
       have Hnum:=Lib.hid (show (((numB [(rs.getD 0 []).getD 4 0,(rs.getD 0 []).getD 5 0,(rs.getD 0 []).getD 6 0,(rs.getD 0 []).getD 7 0]:Nat)):Int)=sqO rs from rfl)
       have HI:=Lib.hid (itsO_cn (rs:=rs) (by rw [Hcn.out];exact h3'))
       rw [Hcn.out] at HI
       have Hs64:=Lib.hid (sqO_64 rs)
       have HO:=Lib.hid ho
       have CNum:=Lib.hid (fun V (hV:Below w.heap.size w V)=>refNumber_any b0 (o0 + 4) 28 (c0 - 4) ((rs.getD 0 []).getD 4 0) ((rs.getD 0 []).getD 5 0) ((rs.getD 0 []).getD 6 0) ((rs.getD 0 []).getD 7 0) V (by omega) ((hV.cell (p:=⟨b0,o0 + 4,none⟩) hb0).trans (HX.out 4 (by omega))) ((hV.cell (p:=⟨b0,o0 + 4 + 1,none⟩) hb0).trans (HX.out 5 (by omega))) ((hV.cell (p:=⟨b0,o0 + 4 + 2,none⟩) hb0).trans (HX.out 6 (by omega))) ((hV.cell (p:=⟨b0,o0 + 4 + 3,none⟩) hb0).trans (HX.out 7 (by omega))))
       rw [Hnum.out] at CNum
       have kc0:¬ c0=4:=by have:=Hcap.out;omega
       have kc1:(4:Int) ≤ (c0:Int):=by have:=Hcap.out;omega
       have kc2:(32:Int) ≤ (c0:Int):=by have:=Hcap.out;omega
       generalize sqO rs=sq at CNum Hs64 HR HB HN HA Hnum
       rw [HI.out] at HR
       rw [hlk] at HO hcv
       have HBr:=Lib.hid hbr
       have HRv:=Lib.hid rdv
       have Hcv:=Lib.hid hcv
       rw [hlk]
       have Hlk:=Lib.hid hlk
       generalize itsN rs k=lk at HRv HO HR HB HN HA Hlk
       clear ho rdv hcv hlk Hnum HI hbr
       go_wp2_with fail
       refine (CNum.out _ HBr.out).mono ?_
       rintro e wn ⟨rfl,m,rfl⟩
       have F4:=Lib.hid (HBr.out.trans (belowN w.heap.size wi m))
       have HR4:=Lib.hid ((HRv.out.below (belowN wi.heap.size wi m) (Nat.le_refl _)).more (show wi.heap.size ≤ (wi.drewN m).heap.size from Nat.le_refl _))
       have HO4:=Lib.hid (HO.out.below (belowN wi.heap.size wi m))
       generalize wi.drewN m=w4 at F4 HR4 HO4
       clear HRv HO HBr
       cases hok:recOk sq lk
       ·obtain rfl:dec=false:=HB.out h3' hok
        obtain ⟨rfl,rfl⟩:=HR'.out rfl
        have CE:=Lib.hid (refEncRec_no Av k cv sq lk w4 Hlk.out Hcv.out Hs64.out HR4.out (Lib.hid hok))
        clear HB HN HA HR HR' hok
        go_wp2_with fail
        refine CE.out.mono ?_
        rintro e w5 ⟨rfl,hb5⟩
        have F5:=F4.out.trans (hb5.mono F4.out.size)
        clear hb5 CE
        go_wp2
        go_ret3
        exact DrP.no F5
       ·have CE:=Lib.hid (refEncRec_yes Av k cv sq lk w4 Hlk.out Hcv.out Hs64.out HR4.out (Lib.hid hok))
        have HA2:=Lib.hid (HA.out Hn.out Hall.out h3' hok)
        have HN2:=Lib.hid (fun q hq=>HN.out h3' q hq)
        clear HB HN HA hok HR4
        go_wp2_with fail
        refine CE.out.mono ?_
        rintro e w5 ⟨gr,capr,bkr,cpr,rfl,hrw,hb5⟩
        have HW:=Lib.hid hrw
        have F5:=Lib.hid (F4.out.trans (hb5.mono F4.out.size))
        have HO5:=Lib.hid (HO4.out.below hb5)
        clear hb5 CE hrw HO4 F4
        generalize recB sq lk=kb at HW HA2 HN2
        go_wp2
        go_loopw [77] (fun i wz=>∃ q:Nat,q ≤ 4∧i=.int .i64 q∧(∀ r,r < q→kb.getD r []=rs.getD r [])∧Below w5.heap.size w5 wz) (fun i _=>4 - (intOf i).toNat)
        case atStart=>exact ⟨0,by omega,rfl,fun r hr=>absurd hr (Nat.not_lt_zero _),Below.refl _ _⟩
        case round =>
         obtain ⟨q,hq,rfl,hsm,hbz⟩:=hrel
         rename World=>wz
         have Hsm:=Lib.hid hsm
         clear hsm
         by_cases hq4:q < 4
         ·obtain ⟨D2,c2,e2,hcap2,hrd2⟩:=HCn.out q (by rw [Hn.out];omega)
          have hy:=Hall.out q (by omega)
          rw [hy] at e2
          have HE1:=Lib.hid (fun V (hV:Below w5.heap.size w5 V)=>(HW.out.below hV).cell q hq4)
          have HE2:=Lib.hid (fun V (hV:Below w5.heap.size w5 V)=>((F5.out.trans (hV.mono F5.out.size)).cell (p:=⟨b,off + q,none⟩) hb).trans e2)
          have HT1:=Lib.hid (fun V (hV:Below w5.heap.size w5 V)=>conv_str (some ⟨bkr q,0,none⟩) (kb.getD q []) 32 (cpr q) _ V (HW.out.len q hq4).symm ((HW.out.rd q hq4).below hV (Nat.le_refl _)))
          have HT2:=Lib.hid (fun V (hV:Below w5.heap.size w5 V)=>conv_str D2 (rs.getD q []) 32 c2 _ V hy.symm (hrd2.below (F5.out.trans (hV.mono F5.out.size)) (Nat.le_refl _)))
          have hne:∀ V,(binOp .neq 9 (str (kb.getD q [])) (str (rs.getD q []))).run Tryz.prog V=.ok (.bool (!(kb.getD q [] == rs.getD q []))) V:=fun V=>str_neq _ _ _ V
          have hg3:∀ x y,(eqGuard .neq 9 x y (str (kb.getD q [])) (str (rs.getD q [])))=pure ():=fun _ _=>by unfold str;rw [eqGuard_at_string]
          have HNq:=Lib.hid (HN2.out q)
          have HGo:=Lib.hid (show kb.getD q []=rs.getD q []→∀ r,r < q + 1→kb.getD r []=rs.getD r [] from fun e r hr=>by
           by_cases e2:r=q
           ·subst e2;exact e
           ·exact Hsm.out r (by omega))
          generalize hs1:str (kb.getD q [])=s1 at HT1 hne hg3
          generalize hs2:str (rs.getD q [])=s2 at HT2 hne hg3
          generalize bkr q=b1 at HE1 HT1
          generalize cpr q=c1 at HE1 HT1
          have k0:(0:Int) ≤ (q:Int):=by omega
          have k1:(q:Int) < 4:=by omega
          clear e2 hy hrd2 hcap2 hs1 hs2
          cases heq:(kb.getD q [] == rs.getD q [])
          ·obtain rfl:dec=false:=HNq.out (by simpa using heq)
           obtain ⟨rfl,rfl⟩:=HR'.out rfl
           rw [heq] at hne
           clear heq HGo HNq HR HR' HN2 HA2
           go_wp2_with fail
           refine wp_region_noPanic (region_ord 11 [] (fun V=>Below w5.heap.size w5 V) (by kernel_rfl) (by kernel_rfl) (fun _ _ _ _ _ h=>h) fun R=>?_)
           change anyI _ _ _ _ _ _ 11 _ _ wz.drew
           have HS0:=Lib.hid (show (fun V=>Below w5.heap.size w5 V) wz.drew from hbz.drew)
           refine' anyI_take R 0 rfl (v:=?_) (by kernel_rfl) (by rfl) (fun V hV=>?hy) HS0.out ?_
           case hy=>((try dsimp only at hV); have p0:=HE1.out V hV;have p1:=HE2.out V hV;have s1:=HT1.out V hV;have s2:=HT2.out V hV;go_simp;try with_reducible rfl)
           try simp only [Act.put,List.getElem_toArray,List.getElem_cons_succ,List.getElem_cons_zero,List.setIfInBounds_toArray,List.set_cons_zero,List.set_cons_succ]
           refine' anyI_take R 1 rfl (v:=?_) (by kernel_rfl) (by rfl) (fun V hV=>?hy) HS0.out ?_
           case hy=>((try dsimp only at hV); have p0:=HE1.out V hV;have p1:=HE2.out V hV;have s1:=HT1.out V hV;have s2:=HT2.out V hV;go_simp;try with_reducible rfl)
           try simp only [Act.put,List.getElem_toArray,List.getElem_cons_succ,List.getElem_cons_zero,List.setIfInBounds_toArray,List.set_cons_zero,List.set_cons_succ]
           refine' anyI_take R 2 rfl (v:=?_) (by kernel_rfl) (by rfl) (fun V hV=>?hy) HS0.out ?_
           case hy=>((try dsimp only at hV); have p0:=HE1.out V hV;have p1:=HE2.out V hV;have s1:=HT1.out V hV;have s2:=HT2.out V hV;go_simp;try with_reducible rfl)
           try simp only [Act.put,List.getElem_toArray,List.getElem_cons_succ,List.getElem_cons_zero,List.setIfInBounds_toArray,List.set_cons_zero,List.set_cons_succ]
           refine' anyI_take R 3 rfl (v:=?_) (by kernel_rfl) (by rfl) (fun V hV=>?hy) HS0.out ?_
           case hy=>((try dsimp only at hV); have p0:=HE1.out V hV;have p1:=HE2.out V hV;have s1:=HT1.out V hV;have s2:=HT2.out V hV;go_simp;try with_reducible rfl)
           try simp only [Act.put,List.getElem_toArray,List.getElem_cons_succ,List.getElem_cons_zero,List.setIfInBounds_toArray,List.set_cons_zero,List.set_cons_succ]
           refine' anyI_take R 4 rfl (v:=?_) (by kernel_rfl) (by rfl) (fun V hV=>?hy) HS0.out ?_
           case hy=>((try dsimp only at hV); have p0:=HE1.out V hV;have p1:=HE2.out V hV;have s1:=HT1.out V hV;have s2:=HT2.out V hV;go_simp;try with_reducible rfl)
           try simp only [Act.put,List.getElem_toArray,List.getElem_cons_succ,List.getElem_cons_zero,List.setIfInBounds_toArray,List.set_cons_zero,List.set_cons_succ]
           refine' anyI_take R 5 rfl (v:=?_) (by kernel_rfl) (by rfl) (fun V hV=>?hy) HS0.out ?_
           case hy=>((try dsimp only at hV); have p0:=HE1.out V hV;have p1:=HE2.out V hV;have s1:=HT1.out V hV;have s2:=HT2.out V hV;go_simp;try with_reducible rfl)
           try simp only [Act.put,List.getElem_toArray,List.getElem_cons_succ,List.getElem_cons_zero,List.setIfInBounds_toArray,List.set_cons_zero,List.set_cons_succ]
           refine' anyI_take R 6 rfl (v:=?_) (by kernel_rfl) (by rfl) (fun V hV=>?hy) HS0.out ?_
           case hy=>((try dsimp only at hV); have p0:=HE1.out V hV;have p1:=HE2.out V hV;have s1:=HT1.out V hV;have s2:=HT2.out V hV;go_simp;try with_reducible rfl)
           try simp only [Act.put,List.getElem_toArray,List.getElem_cons_succ,List.getElem_cons_zero,List.setIfInBounds_toArray,List.set_cons_zero,List.set_cons_succ]
           refine' anyI_take R 7 rfl (v:=?_) (by kernel_rfl) (by rfl) (fun V hV=>?hy) HS0.out ?_
           case hy=>((try dsimp only at hV); have p0:=HE1.out V hV;have p1:=HE2.out V hV;have s1:=HT1.out V hV;have s2:=HT2.out V hV;go_simp;try with_reducible rfl)
           try simp only [Act.put,List.getElem_toArray,List.getElem_cons_succ,List.getElem_cons_zero,List.setIfInBounds_toArray,List.set_cons_zero,List.set_cons_succ]
           refine' anyI_take R 8 rfl (v:=?_) (by kernel_rfl) (by rfl) (fun V hV=>?hy) HS0.out ?_
           case hy=>((try dsimp only at hV); have p0:=HE1.out V hV;have p1:=HE2.out V hV;have s1:=HT1.out V hV;have s2:=HT2.out V hV;go_simp;try with_reducible rfl)
           try simp only [Act.put,List.getElem_toArray,List.getElem_cons_succ,List.getElem_cons_zero,List.setIfInBounds_toArray,List.set_cons_zero,List.set_cons_succ]
           refine' anyI_take R 9 rfl (v:=?_) (by kernel_rfl) (by rfl) (fun V hV=>?hy) HS0.out ?_
           case hy=>((try dsimp only at hV); have p0:=HE1.out V hV;have p1:=HE2.out V hV;have s1:=HT1.out V hV;have s2:=HT2.out V hV;go_simp;try with_reducible rfl)
           try simp only [Act.put,List.getElem_toArray,List.getElem_cons_succ,List.getElem_cons_zero,List.setIfInBounds_toArray,List.set_cons_zero,List.set_cons_succ]
           refine' anyI_take R 10 rfl (v:=?_) (by kernel_rfl) (by rfl) (fun V hV=>?hy) HS0.out ?_
           case hy=>((try dsimp only at hV); have p0:=HE1.out V hV;have p1:=HE2.out V hV;have s1:=HT1.out V hV;have s2:=HT2.out V hV;go_simp;try with_reducible rfl)
           try simp only [Act.put,List.getElem_toArray,List.getElem_cons_succ,List.getElem_cons_zero,List.setIfInBounds_toArray,List.set_cons_zero,List.set_cons_succ]
           refine anyI_tail (by kernel_rfl) ?_
           try simp only [List.drop_succ_cons,List.drop_zero]
           clear R
           go_wp2_with fail
           refine NoPanic.normal ?_
           have F6:=F5.out.trans (HS0.out.mono F5.out.size)
           go_wp2_with fail
           go_ret3
           exact DrP.no F6
          ·have R:=Lib.hid (HGo.out (by simpa using heq))
           rw [heq] at hne
           clear heq HGo HNq
           go_wp2_with fail
           refine wp_region_noPanic (region_ord 11 [] (fun V=>Below w5.heap.size w5 V) (by kernel_rfl) (by kernel_rfl) (fun _ _ _ _ _ h=>h) fun R=>?_)
           change anyI _ _ _ _ _ _ 11 _ _ wz.drew
           have HS0:=Lib.hid (show (fun V=>Below w5.heap.size w5 V) wz.drew from hbz.drew)
           refine' anyI_take R 0 rfl (v:=?_) (by kernel_rfl) (by rfl) (fun V hV=>?hy) HS0.out ?_
           case hy=>((try dsimp only at hV); have p0:=HE1.out V hV;have p1:=HE2.out V hV;have s1:=HT1.out V hV;have s2:=HT2.out V hV;go_simp;try with_reducible rfl)
           try simp only [Act.put,List.getElem_toArray,List.getElem_cons_succ,List.getElem_cons_zero,List.setIfInBounds_toArray,List.set_cons_zero,List.set_cons_succ]
           refine' anyI_take R 1 rfl (v:=?_) (by kernel_rfl) (by rfl) (fun V hV=>?hy) HS0.out ?_
           case hy=>((try dsimp only at hV); have p0:=HE1.out V hV;have p1:=HE2.out V hV;have s1:=HT1.out V hV;have s2:=HT2.out V hV;go_simp;try with_reducible rfl)
           try simp only [Act.put,List.getElem_toArray,List.getElem_cons_succ,List.getElem_cons_zero,List.setIfInBounds_toArray,List.set_cons_zero,List.set_cons_succ]
           refine' anyI_take R 2 rfl (v:=?_) (by kernel_rfl) (by rfl) (fun V hV=>?hy) HS0.out ?_
           case hy=>((try dsimp only at hV); have p0:=HE1.out V hV;have p1:=HE2.out V hV;have s1:=HT1.out V hV;have s2:=HT2.out V hV;go_simp;try with_reducible rfl)
           try simp only [Act.put,List.getElem_toArray,List.getElem_cons_succ,List.getElem_cons_zero,List.setIfInBounds_toArray,List.set_cons_zero,List.set_cons_succ]
           refine' anyI_take R 3 rfl (v:=?_) (by kernel_rfl) (by rfl) (fun V hV=>?hy) HS0.out ?_
           case hy=>((try dsimp only at hV); have p0:=HE1.out V hV;have p1:=HE2.out V hV;have s1:=HT1.out V hV;have s2:=HT2.out V hV;go_simp;try with_reducible rfl)
           try simp only [Act.put,List.getElem_toArray,List.getElem_cons_succ,List.getElem_cons_zero,List.setIfInBounds_toArray,List.set_cons_zero,List.set_cons_succ]
           refine' anyI_take R 4 rfl (v:=?_) (by kernel_rfl) (by rfl) (fun V hV=>?hy) HS0.out ?_
           case hy=>((try dsimp only at hV); have p0:=HE1.out V hV;have p1:=HE2.out V hV;have s1:=HT1.out V hV;have s2:=HT2.out V hV;go_simp;try with_reducible rfl)
           try simp only [Act.put,List.getElem_toArray,List.getElem_cons_succ,List.getElem_cons_zero,List.setIfInBounds_toArray,List.set_cons_zero,List.set_cons_succ]
           refine' anyI_take R 5 rfl (v:=?_) (by kernel_rfl) (by rfl) (fun V hV=>?hy) HS0.out ?_
           case hy=>((try dsimp only at hV); have p0:=HE1.out V hV;have p1:=HE2.out V hV;have s1:=HT1.out V hV;have s2:=HT2.out V hV;go_simp;try with_reducible rfl)
           try simp only [Act.put,List.getElem_toArray,List.getElem_cons_succ,List.getElem_cons_zero,List.setIfInBounds_toArray,List.set_cons_zero,List.set_cons_succ]
           refine' anyI_take R 6 rfl (v:=?_) (by kernel_rfl) (by rfl) (fun V hV=>?hy) HS0.out ?_
           case hy=>((try dsimp only at hV); have p0:=HE1.out V hV;have p1:=HE2.out V hV;have s1:=HT1.out V hV;have s2:=HT2.out V hV;go_simp;try with_reducible rfl)
           try simp only [Act.put,List.getElem_toArray,List.getElem_cons_succ,List.getElem_cons_zero,List.setIfInBounds_toArray,List.set_cons_zero,List.set_cons_succ]
           refine' anyI_take R 7 rfl (v:=?_) (by kernel_rfl) (by rfl) (fun V hV=>?hy) HS0.out ?_
           case hy=>((try dsimp only at hV); have p0:=HE1.out V hV;have p1:=HE2.out V hV;have s1:=HT1.out V hV;have s2:=HT2.out V hV;go_simp;try with_reducible rfl)
           try simp only [Act.put,List.getElem_toArray,List.getElem_cons_succ,List.getElem_cons_zero,List.setIfInBounds_toArray,List.set_cons_zero,List.set_cons_succ]
           refine' anyI_take R 8 rfl (v:=?_) (by kernel_rfl) (by rfl) (fun V hV=>?hy) HS0.out ?_
           case hy=>((try dsimp only at hV); have p0:=HE1.out V hV;have p1:=HE2.out V hV;have s1:=HT1.out V hV;have s2:=HT2.out V hV;go_simp;try with_reducible rfl)
           try simp only [Act.put,List.getElem_toArray,List.getElem_cons_succ,List.getElem_cons_zero,List.setIfInBounds_toArray,List.set_cons_zero,List.set_cons_succ]
           refine' anyI_take R 9 rfl (v:=?_) (by kernel_rfl) (by rfl) (fun V hV=>?hy) HS0.out ?_
           case hy=>((try dsimp only at hV); have p0:=HE1.out V hV;have p1:=HE2.out V hV;have s1:=HT1.out V hV;have s2:=HT2.out V hV;go_simp;try with_reducible rfl)
           try simp only [Act.put,List.getElem_toArray,List.getElem_cons_succ,List.getElem_cons_zero,List.setIfInBounds_toArray,List.set_cons_zero,List.set_cons_succ]
           refine' anyI_take R 10 rfl (v:=?_) (by kernel_rfl) (by rfl) (fun V hV=>?hy) HS0.out ?_
           case hy=>((try dsimp only at hV); have p0:=HE1.out V hV;have p1:=HE2.out V hV;have s1:=HT1.out V hV;have s2:=HT2.out V hV;go_simp;try with_reducible rfl)
           try simp only [Act.put,List.getElem_toArray,List.getElem_cons_succ,List.getElem_cons_zero,List.setIfInBounds_toArray,List.set_cons_zero,List.set_cons_succ]
           refine anyI_tail (by kernel_rfl) ?_
           try simp only [List.drop_succ_cons,List.drop_zero]
           clear R
           go_wp2_with fail
           refine NoPanic.normal ?_
           go_wp2_with fail
           go_roundw
           case rel=>exact ⟨q + 1,by omega,by go_num,R.out,HS0.out⟩
           case measure=>simp [intOf];omega
         ·obtain rfl:q=4:=by omega
          obtain rfl:dec=true:=HA2.out Hsm.out
          obtain ⟨rfl,rfl⟩:=HR.out rfl
          have F6:=Lib.hid (F5.out.trans (hbz.mono F5.out.size))
          have HO6:=Lib.hid (HO5.out.below hbz)
          clear HR HR' HA2 HN2 HW HO5 hbz F5
          go_wp2_with fail
          refine (CNum.out _ F6.out).mono ?_
          rintro e wn ⟨rfl,m2,rfl⟩
          have F7:=Lib.hid (F6.out.trans (belowN w.heap.size wz m2))
          have HO7:=Lib.hid (HO6.out.below (belowN wz.heap.size wz m2))
          clear F6 HO6 CNum
          go_wp2
          go_ret3
          exact ⟨_,rfl,HO7.out,F7.out⟩
 ·have t:((n:Int) != 4)=true:=by rw [bne_iff_ne];omega
  obtain rfl:dec=false:=HL.out (by omega)
  obtain ⟨rfl,rfl⟩:=HR'.out rfl
  clear HL H3 HC HB HN HA HR HR' h4 hn
  go_enter Tryz.func57,Tryz.ntmps57
  go_wp2
  go_ret3
  exact DrP.no (Below.refl _ _)
end Go.Proofs.YtenkkdnepmoihaaGreatDoor
end
