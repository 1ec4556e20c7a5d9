/- Texts put together: DskDmg, DskAllD, RecDec, RecWakes, RecKit, RefRecKit, RefRecLoop. -/
import Derived.Test.YtenkkdnepmoihaaGreatDoorUcaq
import Derived.Test.YtenkkdnepmoihaaGreatDoorUcam
import Derived.Test.YtenkkdnepmoihaaGreatDoorUcal
import Derived.Test.YtenkkdnepmoihaaGreatDoorUcao
import Derived.Test.YtenkkdnepmoihaaGreatDoorUcac
import Derived.Test.YtenkkdnepmoihaaGreatDoorUcap
import Derived.Test.YtenkkdnepmoihaaGreatDoorUcar
import Derived.Test.YtenkkdnepmoihaaGreatDoorUcan
import Derived.Test.YtenkkdnepmoihaaGreatDoorUcae
import Derived.Test.YtenkkdnepmoihaaGreatDoorUcaa
import Derived.Test.YtenkkdnepmoihaaGreatDoorUcad
import Derived.Carry
section
set_option maxRecDepth 8000
namespace Go.Proofs.YtenkkdnepmoihaaGreatDoor
open Go.RowKit
section
variable (B b:Nat) (pv:Value) (D:Dsk) (w:World) (h:DskAt w B b pv D)
include h
theorem dsk_damage_no (k:Int) (A:Option Addr) (n c:Nat) (hk:-9223372036854775808 ≤ k∧k ≤ 9223372036854775807) (hn:n ≤ 140737488355328) (hE:takeE D.f k n ≠ 0) :
    Calls Tryz.prog 77 #[.pointer (some ⟨b,0,none⟩),.int .i64 k,.slice A n c] w fun e w'=>e=.returned (.int .i64 (takeE D.f k n))∧Below w.heap.size w w':=by
 have C:=Lib.hid (dsk_take_any B b pv D (w.alloc (.cells #[.int .i64 k] 3)) (h.below (below1 w _)) k A n c hk hn)
 have hb:=below1 w (.cells #[.int .i64 k] 3)
 clear h
 generalize takeE D.f k n=E at C hE ⊢
 have e2:(E != 0)=true:=by rw [bne_iff_ne];exact hE
 clear hE
 go_enter Tryz.func77,Tryz.ntmps77
 go_wp2_with fail
 refine C.out.mono ?_
 rintro e w' ⟨rfl,rfl⟩
 go_wp2
 go_ret
 exact ⟨rfl,hb⟩
set_option maxHeartbeats 800000 in
theorem dsk_damage_ok (k:Nat) (x:List UInt8) (A:Option Addr) (c:Nat) (hf:D.f=false) (hk:k < 52) (hx:x.length=32) (hr:RdB w w.heap.size A x) (hps:D.ps.length ≤ 2000000) :
    Calls Tryz.prog 77 #[.pointer (some ⟨b,0,none⟩),.int .i64 (k:Int),.slice A 32 c] w fun e w'=>∃ pv',e=.returned (.int .i64 0)∧DskAt w' B b pv' (D.damage k x)∧Chg (DF b pv) w w'∧NewOr w pv pv':=by
 have hB0:=below1 w (.cells #[.int .i64 (k:Int)] 3)
 have Hh:=Lib.hid h
 have H0:=Lib.hid (h.below hB0)
 have C:=Lib.hid (dsk_take_any B b pv D (w.alloc (.cells #[.int .i64 (k:Int)] 3)) H0.out (k:Int) A 32 c (by omega) (by omega))
 have hE:takeE D.f (k:Int) 32=0:=by
  have:reachE D.f (k:Int)=0:=by unfold reachE;rw [hf,if_neg (by simp),if_neg (by omega)]
  unfold takeE;rw [this];rfl
 rw [hE] at C
 obtain ⟨g,off,rfl,hg,hcells⟩:=hr.2 (by omega)
 have Hra:=Lib.hid (show w.rangeAt g off (x.map bv) from fun j v hj=>by
  obtain ⟨hj1,rfl⟩:=List.getElem?_eq_some_iff.1 hj
  have hj2:j < x.length:=by simpa using hj1
  rw [hcells j hj2]
  simp [bv,hj2])
 have Hx:=Lib.hid hx
 have HS:=Lib.hid h.ok.S
 have HN:=Lib.hid h.ok.now
 have harr:=arr_at (some ⟨g,off,none⟩) 32 c (Nat.le_refl _)
 have k0:(0:Int) ≤ (k:Int):=by omega
 have k1:(k:Int) < 52:=by omega
 have Hplt:=Lib.hid h.plt
 have hblt:=h.lt
 have hG0:(w.alloc (.cells #[.int .i64 (k:Int)] 3)).heap[w.heap.size]?=some (.cells #[.int .i64 (k:Int)] 3 (0,0)):=heap_alloc_new _ _
 have Hra0:=Lib.hid (World.rangeAt_alloc Hra.out (.cells #[.int .i64 (k:Int)] 3))
 have HB0:=Lib.hid hB0
 have hs0:(w.alloc (.cells #[.int .i64 (k:Int)] 3)).heap.size=w.heap.size + 1:=by simp
 clear h hcells hr hE hx hB0
 go_enter Tryz.func77,Tryz.ntmps77
 go_wp2_with fail
 generalize hw0:w.alloc (.cells #[.int .i64 (k:Int)] 3)=w0 at C H0 hG0 Hra0 HB0 hs0 ⊢
 generalize hGe:w.heap.size=G at hG0 HB0 hs0 Hplt hblt hg ⊢
 have HGe:=Lib.hid hGe
 have Hw0:=Lib.hid hw0
 clear hGe hw0
 refine C.out.mono ?_
 rintro e w' ⟨rfl,rfl⟩
 have HG0:=Lib.hid hG0
 go_wp2
 refine wp_region_still_tail 8 (by kernel_rfl) (by kernel_rfl) ?_
 simp only [List.take_succ_cons,List.take_zero,List.drop_succ_cons,List.drop_zero]
 change wpStill _ _ w'.drew _ _ _
 have hcG:w'.drew.cell? ⟨G,0,none⟩=some (.int .i64 (k:Int)):=cell_of_row w' G 0 _ _ _ HG0.out
 still_step
 still_step
 still_step
 still_step
 refine wpStill_load_mid rfl 112 _ (by rfl) g off (by rfl) (x.map bv) _ ((World.rangeAt_drew _ _ _ _).2 Hra0.out) Tryz.underlying112 rfl (by rw [List.length_map,Hx.out];exact size_sec) ?_
 repeat still_step
 refine wpStill_nil ?_
 change wpList _ _ _ _ _ w'.drew
 refine wpList_store_blk rfl 112 _ _ (by rfl) b (k * 32) (.agg (x.map bv).toArray) (by rfl) (by rfl) (dcells D.S D.now pv D.f) 116 H0.out.blk (x.map bv) (by rfl) 32 (by rw [List.length_map,Hx.out]) size_sec (by rw [dcells_len HS.out HN.out];omega) map_bv_one (dcells (putAt D.S k x) D.now pv D.f) (spl_Ssec HS.out hk Hx.out) ?_
 intro w1 hb1 hg1
 have HS':=Lib.hid (show (putAt D.S k x).length=1664 from putAt_len HS.out (by omega) Hx.out)
 have HN':=Lib.hid (show (putAt D.now k x).length=1664 from putAt_len HN.out (by omega) Hx.out)
 have HG1:=Lib.hid ((hg1.block G (show G < w'.heap.size by omega) (by intro e;injection e with e;omega)).trans HG0.out)
 have hr1:=range_sec (k:=k) (range_S hb1)
 rw [sec_put_same HS.out hk Hx.out,Nat.zero_add] at hr1
 have Hr1:=Lib.hid hr1
 have Hb1:=Lib.hid hb1
 have Hg1:=Lib.hid (show w'.grownBy w1 (some b) from ⟨hg1.os,hg1.tape,hg1.output,hg1.size,hg1.block⟩)
 clear hb1 hg1 hr1 hcG hG0
 go_wp2
 refine wp_region_still_tail 11 (by kernel_rfl) (by kernel_rfl) ?_
 simp only [List.take_succ_cons,List.take_zero,List.drop_succ_cons,List.drop_zero]
 change wpStill _ _ w1.drew _ _ _
 have hcG:w1.drew.cell? ⟨G,0,none⟩=some (.int .i64 (k:Int)):=cell_of_row w1 G 0 _ _ _ HG1.out
 still_step
 still_step
 still_step
 still_step
 still_step
 still_step
 still_step
 refine wpStill_load_mid rfl 112 _ (by rfl) b (k * 32) (by rfl) (x.map bv) _ ((World.rangeAt_drew _ _ _ _).2 Hr1.out) Tryz.underlying112 rfl (by rw [List.length_map,Hx.out];exact size_sec) ?_
 repeat still_step
 refine wpStill_nil ?_
 change wpList _ _ _ _ _ w1.drew
 refine wpList_store_blk rfl 112 _ _ (by rfl) b (1664 + k * 32) (.agg (x.map bv).toArray) (by rfl) (by rfl) (dcells (putAt D.S k x) D.now pv D.f) 116 Hb1.out (x.map bv) (by rfl) 32 (by rw [List.length_map,Hx.out]) size_sec (by rw [dcells_len HS'.out HN.out];omega) map_bv_one (dcells (putAt D.S k x) (putAt D.now k x) pv D.f) (spl_Nsec HS'.out HN.out hk Hx.out) ?_
 intro w2 hb2 hg2
 have hc12:Chg (fun j=>j=b) w' w2:=(chg_grown Hg1.out).trans (chg_grown hg2).ofDrew (fun _ _ e=>e) |>.mono fun i _ e=>by injection e with e;exact e.symm
 have hG2:=(hg2.block G (show G < w1.heap.size by have:=Hg1.out.size;omega) (by intro e;injection e with e;omega)).trans HG1.out
 have hcG2:w2.cell? ⟨G,0,none⟩=some (.int .i64 (k:Int)):=cell_of_row w2 G 0 _ _ _ hG2
 have hG2lt:G < w2.heap.size:=(Array.getElem?_eq_some_iff.1 hG2).1
 have hown2:w2.ownsRow B 124 33 pv D.ps.length (wcells D.ps):=own_chg H0.out.own hc12 fun j hj e=>H0.out.ne (by rw [hj,e])
 have hcp:=cell_dpv hb2 HS'.out HN'.out
 have CD:=Lib.hid (deletef_any pv B D.ps G k w2 hown2 Hh.out.ok.ps hps hcG2 hG2lt (fun e=>by have:=(Hplt.out G e).2;omega))
 have Hb2:=Lib.hid hb2
 have Hc12:=Lib.hid hc12
 have hb2lt:b < w2.heap.size:=(Array.getElem?_eq_some_iff.1 hb2).1
 have hmf:∀ (fn:Fn) (first cap:Array Value) (w:World),(Instr.makeFunc fn first cap).run Tryz.prog w=.ok (.func fn first cap) w:=fun _ _ _ _=>rfl
 clear hb2 hg2 hc12 hG2 hcG2 hown2 hcG
 go_wp2_with fail
 refine CD.out.mono ?_
 rintro e w3 ⟨v3,rfl,hown3,hc3,hv3⟩
 have Hb3:=Lib.hid ((hc3.block b hb2lt (Hh.out.ne)).trans Hb2.out)
 have hv1:v3.oneCell'=true:=by rcases hown3.2 with ⟨rfl,_⟩ | ⟨g,cap,cur,rfl,_⟩ <;> rfl
 have hvc:v3.cells=#[v3]:=by rcases hown3.2 with ⟨rfl,_⟩ | ⟨g,cap,cur,rfl,_⟩ <;> rfl
 have Hown3:=Lib.hid hown3
 have Hc3:=Lib.hid hc3
 have Hv1:=Lib.hid hv1
 have Hvc:=Lib.hid hvc
 clear hown3 hc3 hv1 hvc hcp
 go_wp2_with (refine wpList_store_blk rfl 114 _ _ (by rfl) b 3328 v3 (by rfl) (by rfl) (dcells (putAt D.S k x) (putAt D.now k x) pv D.f) 116 Hb3.out [v3] Hvc.out 1 (by rfl) size_pend (by rw [dcells_len HS'.out HN'.out];omega) (by intro u hu;simp at hu;subst hu;exact Hv1.out) (dcells (putAt D.S k x) (putAt D.now k x) v3 D.f) (spl_pv HS'.out HN'.out) ?_;intro w4 h4 hg4)
 go_ret
 have hne:v3.ownBlock ≠ some b:=fun e=>Hh.out.ne (hv3 b e)
 refine ⟨v3,rfl,⟨?_,?_,Hh.out.le,hne,Hh.out.ok.damage hk Hx.out⟩,?_,fun j hj=>.inl (hv3 j hj)⟩
 ·rw [Dsk.damage_now Hh.out.ok hk Hx.out];exact h4
 ·exact own_heap Hown3.out fun j hj=>hg4.block j (Hown3.out.lt j hj).2 (by intro e;injection e with e;exact hne (by rw [hj,e]))
 ·have c0:Chg (DF b pv) w w':=by rw [← Hw0.out];exact chg_below _ (below1 w _)
  exact ((c0.trans Hc12.out fun i _ e=>.inl e).trans Hc3.out fun i _ e=>.inr e).trans (chg_grown hg4) fun i _ e=>.inl (by injection e with e;exact e.symm)
end
end Go.Proofs.YtenkkdnepmoihaaGreatDoor
end
section
namespace Go.Proofs.YtenkkdnepmoihaaGreatDoor
open Go.RowKit
theorem dsk_damage_any (B b:Nat) (pv:Value) (D:Dsk) (w:World) (h:DskAt w B b pv D) (k:Int) (x:List UInt8) (A:Option Addr) (n c:Nat) (hn:n=x.length) (hk:-9223372036854775808 ≤ k∧k ≤ 9223372036854775807) (hr:RdB w w.heap.size A x) (hps:D.ps.length ≤ 2000000) :
    Calls Tryz.prog 77 #[.pointer (some ⟨b,0,none⟩),.int .i64 k,.slice A n c] w fun e w'=>∃ pv',e=.returned (.int .i64 (takeE D.f k n))∧DskAt w' B b pv' (D.damageE k x)∧Chg (DF b pv) w w'∧NewOr w pv pv':=by
 subst hn
 unfold Dsk.damageE
 by_cases he:takeE D.f k x.length=0
 ·obtain ⟨hf,h0,h1,hl⟩:=takeE_zero he
  have e:=dsk_damage_ok B b pv D w h k.toNat x A c hf (by omega) hl hr hps
  rw [Int.toNat_of_nonneg h0] at e
  rw [if_pos he,he,hl]
  exact e
 ·rw [if_neg he]
  refine (dsk_damage_no B b pv D w h k A x.length c hk (by have:=hr.1;omega) he).mono ?_
  rintro e w' ⟨rfl,hb⟩
  exact ⟨pv,rfl,h.below hb,chg_below _ hb,NewOr.refl _ _⟩
end Go.Proofs.YtenkkdnepmoihaaGreatDoor
end
section
set_option maxRecDepth 8000
set_option linter.unusedVariables false
set_option linter.unusedSimpArgs false
namespace Go.Proofs.YtenkkdnepmoihaaGreatDoor
open Go.RowKit
theorem its64_O (rs:List (List UInt8)):Its64 (itsO rs):=by
 intro k hk
 have hk':k < min (cnO rs) 3:=by unfold itsO at hk;rwa [itsN_len] at hk
 unfold itsO
 rw [itsN_at rs _ k hk']
 have a:=((rs.getD 0 []).getD (9 + 2 * k) 0).toNat_lt
 have b:=((rs.getD 0 []).getD (10 + 2 * k) 0).toNat_lt
 exact ⟨by show (_:Int) ≤ _∧_;dsimp only [itO];omega,by dsimp only [itO];omega⟩
theorem sqO_64 (rs:List (List UInt8)):(-9223372036854775808 ≤ sqO rs∧sqO rs ≤ 9223372036854775807):=by
 have h:=(numB_lt [(rs.getD 0 []).getD 4 0,(rs.getD 0 []).getD 5 0,(rs.getD 0 []).getD 6 0,(rs.getD 0 []).getD 7 0] 4 (by simp) (by omega)).1
 have e:sqO rs=(numB ([(rs.getD 0 []).getD 4 0,(rs.getD 0 []).getD 5 0,(rs.getD 0 []).getD 6 0,(rs.getD 0 []).getD 7 0].take 4):Nat):=rfl
 rw [e];omega
theorem any_unl (rs:List (List UInt8)) (h4:rs.length=4):sect rs=!(rs.any unl):=by
 rw [Bool.eq_iff_iff]
 simp only [sect_iff,h4,true_and,Bool.not_eq_true',List.any_eq_false]
 refine ⟨fun h x hx=>by simp [unl,h x hx],fun h x hx=>?_⟩
 have:=h x hx
 simp only [unl] at this
 have h2:(x.length:Int)=32:=by simpa [bne_iff_ne] using this
 omega
def DcS (w V:World):Prop:=Below w.heap.size w V∧V.cell? ⟨w.heap.size,0,none⟩=some (.int .i64 0)∧V.cell? ⟨w.heap.size,1,none⟩=some (.slice none 0 0)∧(∀ i,V.frozen? ⟨w.heap.size,i,none⟩=false)
theorem DcS.plt {w V:World} (h:DcS w V):w.heap.size < V.heap.size:=World.block_lt_of_cell? _ _ h.2.1
theorem DcS.below {w V V':World} (h:DcS w V) (hb:Below V.heap.size V V'):DcS w V':=by
 have hg:=grown_none hb
 have n0:∀ i,some (⟨w.heap.size,i,none⟩:Addr).block ≠ none:=fun i=>by simp
 exact ⟨h.1.trans (hb.mono h.1.size),(hb.cell (p:=⟨w.heap.size,0,none⟩) h.plt).trans h.2.1,(hb.cell (p:=⟨w.heap.size,1,none⟩) h.plt).trans h.2.2.1,fun i=>(hg.frozen_far _ h.plt (n0 i)).trans (h.2.2.2 i)⟩
theorem DcS.start (w:World) (t:TypeId):DcS w (w.alloc (.cells #[.int .i64 0,.slice none 0 0] t)):=by
 have c0:=fun i=>cell_of_row _ _ i _ _ _ (heap_alloc_new w (.cells #[.int .i64 0,.slice none 0 0] t))
 exact ⟨below1 w _,c0 0,c0 1,fun i=>World.frozen?_alloc_new w #[.int .i64 0,.slice none 0 0] t i⟩
theorem DcS.put {w V:World} (h:DcS w V) (y:Int) (v:Value):((V.setCell ⟨w.heap.size,0,none⟩ (.int .i64 y)).setCell ⟨w.heap.size,1,none⟩ v).cell? ⟨w.heap.size,0,none⟩=some (.int .i64 y)∧((V.setCell ⟨w.heap.size,0,none⟩ (.int .i64 y)).setCell ⟨w.heap.size,1,none⟩ v).cell? ⟨w.heap.size,1,none⟩=some v
    ∧ Below w.heap.size w ((V.setCell ⟨w.heap.size,0,none⟩ (.int .i64 y)).setCell ⟨w.heap.size,1,none⟩ v)
    ∧ ∀ l,OwIt 92 V (w.heap.size + 1) (w.heap.size + 1) v l→OwIt 92 ((V.setCell ⟨w.heap.size,0,none⟩ (.int .i64 y)).setCell ⟨w.heap.size,1,none⟩ v) w.heap.size w.heap.size v l:=by
 obtain ⟨h1,h5,h6,h7⟩:=h
 have g1:=grown_cell V w.heap.size 0 (.int .i64 y)
 have g2:=grown_cell (V.setCell ⟨w.heap.size,0,none⟩ (.int .i64 y)) w.heap.size 1 v
 have k6:(V.setCell ⟨w.heap.size,0,none⟩ (.int .i64 y)).cell? ⟨w.heap.size,1,none⟩=some (.slice none 0 0):=(World.cell?_setCell_other _ _ _ _ (by intro e;injection e with _ e;cases e)).trans h6
 exact ⟨(World.cell?_setCell_other _ _ _ _ (by intro e;injection e with _ e;cases e)).trans (World.cell?_setCell_same _ _ _ h5),World.cell?_setCell_same _ _ _ k6,(h1.setCell (p:=⟨w.heap.size,0,none⟩) (Nat.le_refl _) _).setCell (p:=⟨w.heap.size,1,none⟩) (Nat.le_refl _) _,fun l h0=>((h0.far g1 (by omega) (by omega)).far g2 (by omega) (by omega)).le (by omega) (by omega)⟩
theorem decode_not (A:Option Addr) (n c:Nat) (rs:List (List UInt8)) (w:World) (hn:rs.length=n) (h:RdR w w.heap.size A rs) (hs:sect rs=false) :
    Calls Tryz.prog 78 #[.slice A n c] w fun e w'=>e=.returned (.tuple #[.agg #[.int .i64 0,.slice none 0 0],.int .i64 2])∧Below w.heap.size w w':=by
 have CU:=Lib.hid fun W (hW:Below w.heap.size w W)=>anyU_any A n c rs W hn ((h.below hW (Nat.le_refl _)).more hW.size)
 have S0:=Lib.hid (DcS.start w 43)
 have HA:=Lib.hid (fun h4:n=4=>show rs.any unl=true by
  have:=any_unl rs (hn.trans h4)
  rw [hs] at this
  cases e:rs.any unl with
  | true=>rfl
  | false=>rw [e] at this;cases this)
 clear h hs hn
 obtain ⟨W0,hW0⟩:∃ W,(w.alloc (.cells #[.int .i64 0,.slice none 0 0] 43))=W:=⟨_,rfl⟩
 rw [hW0] at S0
 by_cases h4:n=4
 ·subst h4
  rw [HA.out rfl] at CU
  clear HA
  go_enter Tryz.func78,Tryz.ntmps78
  go_wp2_with fail
  refine (CU.out _ S0.out.1).mono ?_
  rintro e w1 ⟨rfl,hb⟩
  have S1:=S0.out.below hb
  obtain ⟨p0,p1,pb,_⟩:=S1.put 0 (.slice none 0 0)
  obtain ⟨q0,q1,q2,q3⟩:=id S1
  obtain ⟨q4,q5⟩:=And.intro (q3 0) (q3 1)
  clear hb CU S0 S1
  go_wp2
  refine bodyPost_ret (v:=.tuple #[.agg #[.int .i64 0,.slice none 0 0],.int .i64 2]) (by simp [results,Tryz.results78,go_sem,p0,p1]) rfl ⟨rfl,pb⟩
 ·have e0:((n:Int) != 4)=true:=by rw [bne_iff_ne];omega
  clear HA CU
  obtain ⟨p0,p1,pb,_⟩:=S0.out.put 0 (.slice none 0 0)
  obtain ⟨q0,q1,q2,q3⟩:=S0.out
  obtain ⟨q4,q5⟩:=And.intro (q3 0) (q3 1)
  clear S0
  go_enter Tryz.func78,Tryz.ntmps78
  go_wp2
  refine bodyPost_ret (v:=.tuple #[.agg #[.int .i64 0,.slice none 0 0],.int .i64 2]) (by simp [results,Tryz.results78,go_sem,p0,p1]) rfl ⟨rfl,pb⟩
set_option maxHeartbeats 4000000 in
theorem decode_yes (A:Option Addr) (c:Nat) (rs:List (List UInt8)) (w:World) (hc4:4 ≤ c) (h:RdC w w.heap.size A rs) (hs:sect rs=true) (ht:TabOk w) :
    Calls Tryz.prog 78 #[.slice A 4 c] w fun e w'=>∃ v,e=.returned (.tuple #[.agg #[.int .i64 (rcS rs),v],.int .i64 (rcE rs)])∧OwIt 92 w' w.heap.size w.heap.size v (rcL rs)∧Below w.heap.size w w':=by
 have hl4:=((sect_iff rs).1 hs).1
 have CU:=Lib.hid fun W (hW:Below w.heap.size w W)=>anyU_any A 4 c rs W hl4 ((h.rdr.below hW (Nat.le_refl _)).more hW.size)
 rw [show rs.any unl=false by have:=any_unl rs hl4;rw [hs] at this;cases e:rs.any unl with
  | false=>rfl
  | true=>rw [e] at this;cases this] at CU
 obtain ⟨b,off,rfl,hb,_⟩:=h.2 (by omega)
 have CF:=Lib.hid fun W (hW:Below w.heap.size w W)=>fields_at b off c rs (rs.getD 0 []) _ _ _ _ _ W ((h.below hW (Nat.le_refl _)).more hW.size) hc4 hs rfl ⟨rfl,rfl,rfl,rfl⟩ rfl
 have CQ:=Lib.hid fun (g:Nat) (bk:Nat→Nat) (W:World) (lo:Nat) (hp:P4 lo W g bk (recB (sqO rs) (itsO rs))) (ho:recOk (sqO rs) (itsO rs)=true) (hW:Below w.heap.size w W) =>
  equalR_any (some ⟨g,0,none⟩) (some ⟨b,off,none⟩) 4 4 4 c (recB (sqO rs) (itsO rs)) rs W (recB_len ((recOk_iff _ _).1 ho).1.2.2) hl4 hp.rdr ((h.rdr.below hW (Nat.le_refl _)).more hW.size)
 have HT:=Lib.hid fun W (hW:Below w.heap.size w W)=>ht.below hW ht.pos
 have h64:=its64_O rs
 have hy64:=sqO_64 rs
 have Hno:=Lib.hid (show recOk (sqO rs) (itsO rs)=false→rcO rs=false from fun q=>rcO_not fun h=>by rw [q] at h;cases h.2.1)
 have Hyes:=Lib.hid (show recOk (sqO rs) (itsO rs)=true→rcO rs=decide (recB (sqO rs) (itsO rs)=rs) from fun q=>by unfold rcO;rw [hs,q];rfl)
 have R:=Lib.hid (show rcO rs=true→rcS rs=sqO rs∧rcL rs=itsO rs∧rcE rs=0 from fun q=>⟨if_pos q,if_pos q,if_pos q⟩)
 have R':=Lib.hid (show rcO rs=false→rcS rs=0∧rcL rs=[]∧rcE rs=2 from fun q=>by unfold rcS rcL rcE;rw [q];exact ⟨rfl,rfl,rfl⟩)
 clear h hs ht hl4
 generalize rcS rs=fs at R R'
 generalize rcL rs=fl at R R'
 generalize rcE rs=fe at R R'
 generalize rcO rs=dec at Hno Hyes R R'
 generalize hkb:recB (sqO rs) (itsO rs)=kb at CQ Hyes
 generalize decide (kb=rs)=eqb at CQ Hyes
 generalize sqO rs=y at CF CQ Hno Hyes R hy64 hkb
 generalize itsO rs=L at CF CQ Hno Hyes R h64 hkb
 have S0:=Lib.hid (DcS.start w 43)
 obtain ⟨W0,hW0⟩:∃ W,(w.alloc (.cells #[.int .i64 0,.slice none 0 0] 43))=W:=⟨_,rfl⟩
 rw [hW0] at S0
 go_enter Tryz.func78,Tryz.ntmps78
 go_wp2_with fail
 refine (CU.out _ S0.out.1).mono ?_
 rintro e w1 ⟨rfl,hb1⟩
 have S1:=Lib.hid (S0.out.below hb1)
 clear hb1 CU hW0 S0
 go_wp2_with fail
 refine (CF.out _ S1.out.1).mono ?_
 rintro e w2 ⟨v,rfl,ho,hb2⟩
 have S2:=Lib.hid (S1.out.below hb2)
 replace ho:=ho.le (B':=w.heap.size + 1) (lo':=w.heap.size + 1) S1.out.plt S1.out.plt
 clear hb2 CF S1
 have B3:=below1 w2 (.cells #[.int .i64 y,v] 43)
 have S3:=Lib.hid (S2.out.below B3)
 have O3:=Lib.hid (ho.below B3)
 obtain ⟨A3,c3,rfl,hLc,hrd⟩:=ho.rd
 have k3:=fun i=>cell_of_row _ _ i _ _ _ (heap_alloc_new w2 (.cells #[.int .i64 y,.slice A3 L.length c3] 43))
 have HK:=Lib.hid (And.intro (k3 0) (k3 1))
 have hsz:w2.heap.size < (w2.alloc (.cells #[.int .i64 y,.slice A3 L.length c3] 43)).heap.size:=by simp
 replace hrd:=(hrd.below B3 (Nat.le_refl _)).more (Nat.le_of_lt hsz)
 obtain ⟨p,hp⟩:∃ p,w2.heap.size=p:=⟨_,rfl⟩
 rw [hp] at HK hsz
 clear B3 k3 S2
 obtain ⟨W3,hW3⟩:∃ W,(w2.alloc (.cells #[.int .i64 y,.slice A3 L.length c3] 43))=W:=⟨_,rfl⟩
 rw [hW3] at HK hsz hrd S3 O3
 have CN:=Lib.hid fun (q:recOk y L=false)=>encode_no A3 L.length c3 y L W3 rfl hLc hy64 hrd h64 (Lib.hid q)
 have CY:=Lib.hid fun (q:recOk y L=true)=>encode_yes A3 L.length c3 y L W3 rfl hLc hy64 hrd h64 (Lib.hid q) (HT.out _ S3.out.1)
 rw [hkb] at CY
 obtain ⟨k0,k1⟩:=HK.out
 clear hrd
 generalize recOk y L=ok at CN CY Hno Hyes CQ
 cases ok
 ·obtain ⟨rfl,rfl,rfl⟩:=R'.out (Hno.out rfl)
  clear R R' Hno Hyes CQ CY
  go_wp2_with fail
  refine (CN.out trivial).mono ?_
  rintro e w4 ⟨rfl,hb4⟩
  have S4:=S3.out.below hb4
  obtain ⟨p0,p1,pb,po⟩:=S4.put 0 (.slice none 0 0)
  obtain ⟨q0,q1,q2,q3⟩:=S4
  obtain ⟨q4,q5⟩:=And.intro (q3 0) (q3 1)
  have Hpo:=Lib.hid (po [] (OwIt.nil _ _ _ _))
  clear hb4 CN S3 O3 po k0 k1 HK
  go_wp2
  refine bodyPost_ret (v:=.tuple #[.agg #[.int .i64 0,.slice none 0 0],.int .i64 2]) (by simp [results,Tryz.results78,go_sem,p0,p1]) rfl ⟨_,rfl,Hpo.out,pb⟩
 ·have hdec:=Hyes.out rfl
  clear CN Hno Hyes
  go_wp2_with fail
  refine (CY.out trivial).mono ?_
  rintro e w4 ⟨g,bk,rfl,hp4,hb4⟩
  have S4:=Lib.hid (S3.out.below hb4)
  have O4:=Lib.hid (O3.out.below hb4)
  have K4:=Lib.hid (And.intro ((hb4.cell (p:=⟨p,0,none⟩) hsz).trans HK.out.1) ((hb4.cell (p:=⟨p,1,none⟩) hsz).trans HK.out.2))
  have hp4lt:p < w4.heap.size:=Nat.lt_of_lt_of_le hsz hb4.size
  have CE:=Lib.hid (CQ.out g bk w4 _ hp4 trivial S4.out.1)
  clear hb4 CY CQ S3 O3 k0 k1 HK hp4
  cases eqb
  ·obtain ⟨rfl,rfl,rfl⟩:=R'.out hdec
   clear R R' hdec
   go_wp2_with fail
   refine CE.out.mono ?_
   rintro e w5 ⟨rfl,hb5⟩
   have S5:=S4.out.below hb5
   obtain ⟨p0,p1,pb,po⟩:=S5.put 0 (.slice none 0 0)
   obtain ⟨q0,q1,q2,q3⟩:=S5
   obtain ⟨q4,q5⟩:=And.intro (q3 0) (q3 1)
   have Hpo:=Lib.hid (po [] (OwIt.nil _ _ _ _))
   clear hb5 CE S4 O4 po
   go_wp2
   refine bodyPost_ret (v:=.tuple #[.agg #[.int .i64 0,.slice none 0 0],.int .i64 2]) (by simp [results,Tryz.results78,go_sem,p0,p1]) rfl ⟨_,rfl,Hpo.out,pb⟩
  ·obtain ⟨rfl,rfl,rfl⟩:=R.out hdec
   clear R R' hdec
   go_wp2_with fail
   refine CE.out.mono ?_
   rintro e w5 ⟨rfl,hb5⟩
   have S5:=S4.out.below hb5
   have k0:=(hb5.cell (p:=⟨p,0,none⟩) hp4lt).trans K4.out.1
   have k1:=(hb5.cell (p:=⟨p,1,none⟩) hp4lt).trans K4.out.2
   obtain ⟨p0,p1,pb,po⟩:=S5.put fs (.slice A3 fl.length c3)
   obtain ⟨q0,q1,q2,q3⟩:=S5
   obtain ⟨q4,q5⟩:=And.intro (q3 0) (q3 1)
   have Hpo:=Lib.hid (po fl (O4.out.below hb5))
   clear hb5 CE S4 O4 po K4
   go_wp2
   refine bodyPost_ret (v:=.tuple #[.agg #[.int .i64 fs,.slice A3 fl.length c3],.int .i64 0]) (by simp [results,Tryz.results78,go_sem,p0,p1]) rfl ⟨_,rfl,Hpo.out,pb⟩
theorem decode_any (A:Option Addr) (n c:Nat) (rs:List (List UInt8)) (w:World) (hn:rs.length=n) (hnc:n ≤ c) (h:RdC w w.heap.size A rs) (ht:TabOk w) :
    Calls Tryz.prog 78 #[.slice A n c] w fun e w'=>∃ v,e=.returned (.tuple #[.agg #[.int .i64 (rcS rs),v],.int .i64 (rcE rs)])∧OwIt 92 w' w.heap.size w.heap.size v (rcL rs)∧Below w.heap.size w w':=by
 cases hs:sect rs with
 | true =>
   obtain rfl:n=4:=hn.symm.trans ((sect_iff rs).1 hs).1
   exact decode_yes A c rs w hnc h hs ht
 | false =>
   refine (decode_not A n c rs w hn h.rdr hs).mono ?_
   rintro e w' ⟨rfl,hb⟩
   have q:rcO rs=false:=by unfold rcO;rw [hs];rfl
   have e1:rcS rs=0:=by unfold rcS;rw [q];rfl
   have e2:rcL rs=[]:=by unfold rcL;rw [q];rfl
   have e3:rcE rs=2:=by unfold rcE;rw [q];rfl
   rw [e1,e2,e3]
   exact ⟨_,rfl,OwIt.nil _ _ _ _,hb⟩
end Go.Proofs.YtenkkdnepmoihaaGreatDoor
end
section
set_option linter.unusedVariables false
set_option linter.unusedSimpArgs false
namespace Go.Proofs.YtenkkdnepmoihaaGreatDoor
open Go.RowKit
end Go.Proofs.YtenkkdnepmoihaaGreatDoor
end
section
set_option maxRecDepth 8000
set_option linter.unusedVariables false
set_option linter.unusedSimpArgs false
namespace Go.Proofs.YtenkkdnepmoihaaGreatDoor
open Go.RowKit
section
variable {lo:Nat} {W:World} {g:Nat} {bk:Nat→Nat} {rs:List (List UInt8)}
theorem P4.cell (h:P4 lo W g bk rs) (k:Nat) (hk:k < rs.length):W.cell? ⟨g,k,none⟩=some (.slice (some ⟨bk k,0,none⟩) 32 32):=by
 have:=h.row k (by have:=h.n;omega);rwa [slv_yes hk] at this
end
end Go.Proofs.YtenkkdnepmoihaaGreatDoor
end
section
set_option maxRecDepth 8000
set_option linter.unusedVariables false
set_option linter.unusedSimpArgs false
namespace Go.Proofs.YtenkkdnepmoihaaGreatDoor
open Go.RowKit
theorem refFour_any (n:Int) (w:World) (hn:0 ≤ n∧n ≤ 2147483647) :
    Calls Tryz.prog 120 #[.int .i64 n] w fun e w'=>∃ g:Nat,e=.returned (.slice (some ⟨g,0,none⟩) 4 4)∧OwB 5 w' w.heap.size (.slice (some ⟨g,0,none⟩) 4 4) [byN n 3,byN n 2,byN n 1,byN n 0]∧Below w.heap.size w w':=by
 have e3:n / 16777216=((byN n 3).toNat:Int):=by have:=byN_u8 hn.1 3 (by omega);omega
 have e2:n / 65536 % 256=((byN n 2).toNat:Int):=byN_u8 hn.1 2 (by omega)
 have e1:n / 256 % 256=((byN n 1).toNat:Int):=byN_u8 hn.1 1 (by omega)
 have e0:n % 256=((byN n 0).toNat:Int):=by have:=byN_u8 hn.1 0 (by omega);omega
 generalize byN n 3=b3 at e3
 generalize byN n 2=b2 at e2
 generalize byN n 1=b1 at e1
 generalize byN n 0=b0 at e0
 go_enter Tryz.func120,Tryz.ntmps120
 go_wp2
 go_ret
 exact ⟨_,rfl,own_lit [b3,b2,b1,b0] rfl rfl (by omega),below1 _ _⟩
theorem refFull_n (v:Value) (bs:List UInt8) (n B:Nat) (w:World) (h:OwB 5 w B v bs) (hl:bs.length=n) (hn:n < 32) (hB:B ≤ w.heap.size) :
    Calls Tryz.prog 122 #[v] w fun e w'=>∃ v',e=.returned v'∧OwB 5 w' B v' (bs ++ List.replicate (32 - n) 0)∧w.grownBy w' v.ownBlock:=by
 obtain ⟨A,c,rfl,hc,hr⟩:=h.rd
 have Hh:=Lib.hid h
 have HL:=Lib.hid hl
 rw [hl]
 rw [hl] at Hh
 obtain ⟨m,hm⟩:∃ m,32 - n=m:=⟨_,rfl⟩
 have kz:IntKind.i64.wrap (32 - (n:Int))=(m:Int):=by rw [IntKind.wrap_i64];omega
 have hm32:0 < m∧m ≤ 32:=by omega
 rw [hm]
 clear h hl hr hc hm
 go_enter Tryz.func122,Tryz.ntmps122
 go_wp2_with (refine wpList_append_Z _ rfl _ _ _ _ rfl B 5 .i64 Tryz.underlying35 Tryz.underlying3 info_u8 (.slice A n c) bs rfl Hh.out .i64 m rfl (by omega) (by rw [HL.out];omega) hB ?_;intro v1 w1 o1 g1 h1)
 go_ret
 exact ⟨_,rfl,o1,g1⟩
theorem rw_cons {lo:Nat} {W6 W8:World} {g cap n:Nat} {bk cp:Nat→Nat} {rs:List (List UInt8)} {gs cs:Nat} {b:List UInt8} {v':Value} (h:Rw lo W6 g cap n bk cp rs) (ho:OwB 5 W6 lo (.slice (some ⟨gs,0,none⟩) 32 cs) b) (hb:b.length=32) (hgs:∀ k,k < n→gs ≠ bk k) (hn:n < 9)
    (hr:W8.ownsRow lo 35 1 v' (1 + n) ([.slice (some ⟨gs,0,none⟩) 32 cs] ++ rwvs bk cp n)) (hB:Below W6.heap.size W6 W8) (hv:∀ q,v'.ownBlock=some q→W6.heap.size ≤ q) :
    ∃ g' cap' bk' cp',v'=.slice (some ⟨g',0,none⟩) (1 + n) cap'∧Rw lo W8 g' cap' (1 + n) bk' cp' (b::rs):=by
 obtain ⟨A,c,rfl,hc,hg⟩:=rx_form hr
 obtain ⟨g',rfl,hB'⟩:=hg (by omega)
 have hg':=hv g' rfl
 have e:[.slice (some ⟨gs,0,none⟩) 32 cs] ++ rwvs bk cp n=rwvs (fun k=>if k=0 then gs else bk (k - 1)) (fun k=>if k=0 then cs else cp (k - 1)) (1 + n):=by
  apply List.ext_getElem (by simp [rwvs];omega)
  intro k h1 h2
  match k with
  | 0=>simp [rwvs,rwv]
  | k + 1=>simp [rwvs,rwv]
 rw [e] at hr
 have hgl:=(ho.lt gs rfl).2
 refine ⟨g',c,_,_,rfl,hr,by simp [h.nn];omega,by omega,fun k hk=>?_,fun k hk=>?_,fun k hk=>?_,fun j k hj hk hjk=>?_⟩
 ·match k with
  | 0=>exact hb
  | k + 1=>exact h.len k (by omega)
 ·match k with
  | 0=>exact ho.below hB
  | k + 1=>exact (h.own k (by omega)).below hB
 ·match k with
  | 0=>show gs ≠ g';omega
  | k + 1 =>
    have:=(h.blt k (by omega)).2
    show bk k ≠ g';omega
 ·match j,k with
  | 0,0=>rfl
  | 0,k + 1=>exact absurd hjk (hgs k (by omega))
  | j + 1,0=>exact absurd hjk.symm (hgs j (by omega))
  | j + 1,k + 1=>have:=h.inj j k (by omega) (by omega) hjk;omega
theorem partsB_next {l:List It} {j:Nat} (h:l.length ≤ 3) (hj:j < l.length):(partsB (l.take j)).getD j []=z32∧(partsB (l.take j)).set j (itN l j).b=partsB (l.take (j + 1)):=by
 have h1:=stgB_get (s:=0) h hj
 have h2:=stgB_succ (s:=0) h hj
 rw [Nat.add_comm 1 j] at h1 h2
 refine ⟨?_,?_⟩
 ·have e:(stgB 0 l j).getD (j + 1) []=(partsB (l.take j)).getD j []:=by simp [stgB,List.getD_eq_getElem?_getD]
  rw [← e];exact h1
 ·have e:(stgB 0 l j).set (j + 1) (itN l j).b=fullB 0 l::(partsB (l.take j)).set j (itN l j).b:=rfl
  rw [e] at h2
  exact (List.cons.inj h2).2
def ErS (w:World) (g cap:Nat) (bk cp:Nat→Nat) (v:Value) (bs:List UInt8) (ps:List (List UInt8)) (V:World):Prop :=
 OwB 5 V w.heap.size v bs∧Rw w.heap.size V g cap 3 bk cp ps∧(∀ k,v.ownBlock=some k→k ≠ g∧∀ j,j < 3→k ≠ bk j)∧Below w.heap.size w V
section
variable {w V V':World} {g cap:Nat} {bk cp:Nat→Nat} {v v':Value} {bs bs':List UInt8} {ps:List (List UInt8)}
theorem ErS.below (h:ErS w g cap bk cp v bs ps V) (hb:Below V.heap.size V V'):ErS w g cap bk cp v bs ps V':=⟨h.1.below hb,h.2.1.below hb,h.2.2.1,h.2.2.2.trans (hb.mono h.2.2.2.size)⟩
theorem ErS.drew (h:ErS w g cap bk cp v bs ps V):ErS w g cap bk cp v bs ps V.drew:=h.below (Below.refl _ _).drew
theorem ErS.grow (h:ErS w g cap bk cp v bs ps V) (ho:OwB 5 V' w.heap.size v' bs') (hg:V.grownBy V' v.ownBlock) (hat:v'.ownBlock=v.ownBlock∨v'.ownBlock=some V.heap.size):ErS w g cap bk cp v' bs' ps V':=by
 obtain ⟨h1,h2,h3,h4⟩:=h
 refine ⟨ho,h2.grown hg (fun e=>(h3 g e).1 rfl) (fun k hk e=>(h3 _ e).2 k hk rfl),fun k e=>?_,h4.grown hg h4.size (fun k e=>(h1.lt k e).1)⟩
 rcases hat with hat | hat
 ·rw [hat] at e;exact h3 k e
 ·rw [hat] at e
  injection e with e
  have:=h2.glt.2
  exact ⟨by omega,fun j hj=>by have:=(h2.blt j hj).2;omega⟩
theorem ErS.copy (h:ErS w g cap bk cp v bs ps V) (k:Nat) (hk:k < 3) {b:List UInt8} (ho:OwB 5 V' w.heap.size (.slice (some ⟨bk k,0,none⟩) 32 (cp k)) b) (hb:b.length=32) (hg:V.grownBy V' (some (bk k))):ErS w g cap bk cp v bs (ps.set k b) V':=by
 obtain ⟨h1,h2,h3,h4⟩:=h
 exact ⟨h1.grown hg (by
  rcases hv:v.ownBlock with _ | q
  ·exact .inl rfl
  ·exact .inr fun e=>by injection e with e;exact (h3 q hv).2 k hk e),h2.set k hk ho hb hg,h3,h4.grown hg h4.size (fun j e=>by injection e with e;subst e;exact (h2.blt k hk).1)⟩
end
end Go.Proofs.YtenkkdnepmoihaaGreatDoor
end
section
set_option linter.unusedVariables false
set_option linter.unusedSimpArgs false
namespace Go.Proofs.YtenkkdnepmoihaaGreatDoor
open Go.RowKit
noncomputable def codeER:Code:=Tryz.f90.body.getD .skip
set_option maxRecDepth 100000 in
set_option maxHeartbeats 3200000 in
theorem erRb {w0:World} {A:Option Addr} {c g cap:Nat} {bk cp:Nat→Nat} {l:List It} {b0:List UInt8} {j:Nat} {v:Value} {w:World} (u0 u1 u2 u3 u4 u5 u8 u9 u10 u11 u12 u13 u14 u15 u16 u17 u18 u19 u20 u21 u22 u23 u24 u25 u26 u27 u31 u32 u33 u34 u35 u36 u37 u38 u39 u40 u41 u42 u43 u44 u45 u46 u47 u48 u49 u50 u51 u52 u53 u54 u55 u56 u57 u58:Value) (K:Act→World→Prop) (Q0:Exit→Act→World→Prop) (hr:RdI w0 w0.heap.size A l) (hl:l.length ≤ 3) (hb0:b0.length=9) (hm:∀ x ∈ l,0 ≤ x.d∧x.d < 8∧36 ≤ x.a∧x.a < 52∧x.b.length=32) (hI:(j ≤ l.length∧ErS w0 g cap bk cp v (b0 ++ plcB (l.take j)) (partsB (l.take j)) w))
    (hK:∀ (v8 v9 v31 v32 v33 v34 v35 v36 v37 v38 v39 v40 v41 v42 v43 v44 v45 v46 v47 v48 v49 v50 v51:Value) (v2:Value) (V:World),((j + 1) ≤ l.length∧ErS w0 g cap bk cp v2 (b0 ++ plcB (l.take (j + 1))) (partsB (l.take (j + 1))) V)→l.length - (j + 1) < l.length - j→K ⟨List.toArray (u0::u1::u2::u3::u4::u5::v2::(.slice (some ⟨g,0,none⟩) 3 cap)::v8::v9::u10::u11::u12::u13::u14::u15::u16::u17::u18::u19::u20::u21::u22::u23::u24::u25::u26::u27::(.slice A l.length c)::(.int .i64 (l.length:Int))::(.int .i64 (((j + 1):Nat):Int))::v31::v32::v33::v34::v35::v36::v37::v38::v39::v40::v41::v42::v43::v44::v45::v46::v47::v48::v49::v50::v51::u52::u53::u54::u55::u56::u57::u58::[]),[]⟩ V)
    (hX:∀ (v8 v9 v31 v32 v33 v34 v35 v36 v37 v38 v39 v40 v41 v42 v43 v44 v45 v46 v47 v48 v49 v50 v51:Value),(j=l.length)→Q0 (.exit 0) ⟨List.toArray (u0::u1::u2::u3::u4::u5::v::(.slice (some ⟨g,0,none⟩) 3 cap)::v8::v9::u10::u11::u12::u13::u14::u15::u16::u17::u18::u19::u20::u21::u22::u23::u24::u25::u26::u27::(.slice A l.length c)::(.int .i64 (l.length:Int))::(.int .i64 ((j:Nat):Int))::v31::v32::v33::v34::v35::v36::v37::v38::v39::v40::v41::v42::v43::v44::v45::v46::v47::v48::v49::v50::v51::u52::u53::u54::u55::u56::u57::u58::[]),[]⟩ w) :
    Code.wp Tryz.prog (sub [1,1,1,1,0,1,0,0] codeER) (Exit.then K Q0) ⟨List.toArray (u0::u1::u2::u3::u4::u5::v::(.slice (some ⟨g,0,none⟩) 3 cap)::u8::u9::u10::u11::u12::u13::u14::u15::u16::u17::u18::u19::u20::u21::u22::u23::u24::u25::u26::u27::(.slice A l.length c)::(.int .i64 (l.length:Int))::(.int .i64 ((j:Nat):Int))::u31::u32::u33::u34::u35::u36::u37::u38::u39::u40::u41::u42::u43::u44::u45::u46::u47::u48::u49::u50::u51::u52::u53::u54::u55::u56::u57::u58::[]),[]⟩ w:=by
 have HK:=Lib.hid hK
 have HX:=Lib.hid hX
 clear hK hX
 conv=>arg 2;whnf
 obtain ⟨hj,hst⟩:=hI
 by_cases hlt:j < l.length
 ·obtain ⟨ga,rfl,hga,hc⟩:=hr.2 (by omega)
  obtain ⟨D,cd,hrp,hrd⟩:=hc j hlt
  have hk:=hm _ (itN_mem hlt)
  have Ht:=Lib.hid (plcB_take hlt)
  obtain ⟨hz,hset⟩:=partsB_next hl hlt
  have hpl:(b0 ++ plcB (l.take j)).length ≤ 15:=by rw [List.length_append,plcB_len,hb0];simp;omega
  generalize itN l j=y at hrp hrd hk Ht hset
  obtain ⟨d,a,b⟩:=y
  dsimp only at hrp hrd hk Ht hset
  obtain ⟨hd0,hd1,ha0,ha1,hb32⟩:=hk
  rw [hb32] at hrp
  have ed:d=((byN d 0).toNat:Int):=by have:=byX_one (n:=d) (by omega);omega
  have ea:a=((byN a 0).toNat:Int):=by have:=byX_one (n:=a) (by omega);omega
  generalize byN d 0=ub at ed Ht
  generalize byN a 0=uc at ea Ht
  subst ed ea
  have mu:(ub.toNat:Int) % 256=(ub.toNat:Int):=by have:ub.toNat < 256:=ub.toNat_lt;omega
  have mc:(uc.toNat:Int) % 256=(uc.toNat:Int):=by have:uc.toNat < 256:=uc.toNat_lt;omega
  have Hrp:=Lib.hid (rangeAt_keep (w':=w) hrp fun k=>hst.2.2.2.cell hga)
  obtain ⟨q,hq⟩:∃ q,w.heap.size=q:=⟨_,rfl⟩
  have hx2:=cell_of_row _ _ 2 _ _ _ (heap_alloc_new w (.cells #[.int .i64 (ub.toNat:Int),.int .i64 (uc.toNat:Int),.slice D 32 cd] 125))
  rw [hq] at hx2
  have hvq:=fun k e=>(hst.1.lt k e).2
  rw [hq] at hvq
  have HA:=Lib.hid (hst.below (below1 w (.cells #[.int .i64 (ub.toNat:Int),.int .i64 (uc.toNat:Int),.slice D 32 cd] 125)))
  have hsz1:(w.alloc (.cells #[.int .i64 (ub.toNat:Int),.int .i64 (uc.toNat:Int),.slice D 32 cd] 125)).heap.size=q + 1:=by simp [hq]
  have HA2:=Lib.hid (HA.out.below (below1 (w.alloc (.cells #[.int .i64 (ub.toNat:Int),.int .i64 (uc.toNat:Int),.slice D 32 cd] 125)) (.cells #[.int .u8 (ub.toNat:Int),.int .u8 (uc.toNat:Int)] 5)))
  have HX2:=Lib.hid ((World.cell?_alloc_lt (w.alloc (.cells #[.int .i64 (ub.toNat:Int),.int .i64 (uc.toNat:Int),.slice D 32 cd] 125)) (.cells #[.int .u8 (ub.toNat:Int),.int .u8 (uc.toNat:Int)] 5) ⟨q,2,none⟩ (by show q < _;rw [hsz1];omega)).trans hx2)
  have RL:=Lib.hid (rd_lit (W:=w.alloc (.cells #[.int .i64 (ub.toNat:Int),.int .i64 (uc.toNat:Int),.slice D 32 cd] 125)) (e:=5) (C:=#[.int .u8 (ub.toNat:Int),.int .u8 (uc.toNat:Int)]) [ub,uc] rfl rfl (by simp))
  rw [hsz1] at RL
  obtain ⟨W2,hW2⟩:∃ W,(w.alloc (.cells #[.int .i64 (ub.toNat:Int),.int .i64 (uc.toNat:Int),.slice D 32 cd] 125)).alloc (.cells #[.int .u8 (ub.toNat:Int),.int .u8 (uc.toNat:Int)] 5)=W:=⟨_,rfl⟩
  rw [hW2] at HA2 HX2 RL
  have HVq:=Lib.hid hvq
  have Hq:=Lib.hid (show q < W2.heap.size from World.block_lt_of_cell? _ _ HX2.out)
  have HZ:=Lib.hid hz
  have HSet:=Lib.hid hset
  have HRd:=Lib.hid hrd
  have H32:=Lib.hid hb32
  have k0:(0:Int) ≤ (j:Int):=by omega
  have k1:(j:Int) < (l.length:Int):=by omega
  have k3:(j:Int) < 3:=by omega
  have HL3:=Lib.hid hl
  have HB0:=Lib.hid hpl
  generalize hbs:b0 ++ plcB (l.take j)=bs at HA2 HB0
  have Hbs:=Lib.hid hbs
  generalize partsB (l.take j)=ps at HA2 HZ HSet
  clear hbs hr hl hb0 hm hst hc hrp hrd hz hset hpl HX HA hx2 hvq hb32
  go_wp2_with (first
   |((with_reducible refine (id ?_:wpList _ _ _ (⟨some 34,_,_,_,_,_⟩::_) _ _));refine wpList_load_mid rfl 125 _ (by rfl) ga (j * 3) (by rfl) [.int .i64 (ub.toNat:Int),.int .i64 (uc.toNat:Int),.slice D 32 cd] _ Hrp.out Tryz.underlying125 rfl (by kernel_rfl) ?_)
   |((with_reducible refine (id ?_:wpList _ _ _ (⟨some 43,_,_,_,_,_⟩::_) _ _));refine wpList_append_B _ rfl _ _ _ rfl w0.heap.size 5 Tryz.underlying35 info_u8 v bs rfl HA2.out.1 _ (some ⟨q + 1,0,none⟩) 2 2 [ub,uc] rfl rfl RL.out (by have:=HB0.out;simp;omega) HA2.out.2.2.2.size ?_
     intro v4 w4 O4 g4 hat4
     have H4:=Lib.hid (HA2.out.grow O4 g4 hat4)
     have C4:=Lib.hid ((g4.cell_far ⟨q,2,none⟩ Hq.out (fun e=>by have:=HVq.out q e.symm;omega)).trans HX2.out)
     clear O4 g4 hat4))
  generalize hbq:bs ++ [ub,uc]=bq at H4
  have Hbq:=Lib.hid hbq
  generalize hpj:ps=pj at H4 HZ HSet
  clear hbq hpj HA2 HX2 RL hW2 HVq Hq HB0
  refine wp_region_noPanic (region_ord 6 [] (fun V=>ErS w0 g cap bk cp v4 bq pj V∧V.cell? ⟨q,2,none⟩=some (.slice D 32 cd)) (by kernel_rfl) (by kernel_rfl) (fun _ _ _ _ _ h=>h) fun R=>?_)
  change anyI _ _ _ _ _ _ 7 _ _ w4.drew
  have HS0:=Lib.hid (show (fun V=>ErS w0 g cap bk cp v4 bq pj V∧V.cell? ⟨q,2,none⟩=some (.slice D 32 cd)) w4.drew from ⟨H4.out.drew,C4.out⟩)
  refine' anyI_take R 0 rfl (v:=?_) (by kernel_rfl) (by rfl) (fun V hV=>?hy) HS0.out ?_
  case hy=>((try dsimp only at hV); have p0:=hV.1.2.1.cell j (by omega);have p1:=hV.2;go_simp;try with_reducible rfl)
  try simp only [Act.put,List.getElem_toArray,List.getElem_cons_succ,List.getElem_cons_zero,List.setIfInBounds_toArray,List.set_cons_zero,List.set_cons_succ]
  refine' anyI_take R 1 rfl (v:=?_) (by kernel_rfl) (by rfl) (fun V hV=>?hy) HS0.out ?_
  case hy=>((try dsimp only at hV); have p0:=hV.1.2.1.cell j (by omega);have p1:=hV.2;go_simp;try with_reducible rfl)
  try simp only [Act.put,List.getElem_toArray,List.getElem_cons_succ,List.getElem_cons_zero,List.setIfInBounds_toArray,List.set_cons_zero,List.set_cons_succ]
  refine' anyI_take R 2 rfl (v:=?_) (by kernel_rfl) (by rfl) (fun V hV=>?hy) HS0.out ?_
  case hy=>((try dsimp only at hV); have p0:=hV.1.2.1.cell j (by omega);have p1:=hV.2;go_simp;try with_reducible rfl)
  try simp only [Act.put,List.getElem_toArray,List.getElem_cons_succ,List.getElem_cons_zero,List.setIfInBounds_toArray,List.set_cons_zero,List.set_cons_succ]
  refine' anyI_take R 3 rfl (v:=?_) (by kernel_rfl) (by rfl) (fun V hV=>?hy) HS0.out ?_
  case hy=>((try dsimp only at hV); have p0:=hV.1.2.1.cell j (by omega);have p1:=hV.2;go_simp;try with_reducible rfl)
  try simp only [Act.put,List.getElem_toArray,List.getElem_cons_succ,List.getElem_cons_zero,List.setIfInBounds_toArray,List.set_cons_zero,List.set_cons_succ]
  refine' anyI_take R 4 rfl (v:=?_) (by kernel_rfl) (by rfl) (fun V hV=>?hy) HS0.out ?_
  case hy=>((try dsimp only at hV); have p0:=hV.1.2.1.cell j (by omega);have p1:=hV.2;go_simp;try with_reducible rfl)
  try simp only [Act.put,List.getElem_toArray,List.getElem_cons_succ,List.getElem_cons_zero,List.setIfInBounds_toArray,List.set_cons_zero,List.set_cons_succ]
  refine' anyI_take R 5 rfl (v:=?_) (by kernel_rfl) (by rfl) (fun V hV=>?hy) HS0.out ?_
  case hy=>((try dsimp only at hV); have p0:=hV.1.2.1.cell j (by omega);have p1:=hV.2;go_simp;try with_reducible rfl)
  try simp only [Act.put,List.getElem_toArray,List.getElem_cons_succ,List.getElem_cons_zero,List.setIfInBounds_toArray,List.set_cons_zero,List.set_cons_succ]
  refine anyI_tail (by kernel_rfl) ?_
  try simp only [List.drop_succ_cons,List.drop_zero]
  clear R
  have h5:=HS0.out.1.2.1.own j (by omega)
  rw [HZ.out] at h5
  refine wpList_copy_B rfl _ _ _ rfl 5 Tryz.underlying35 (by kernel_rfl) (bk j) 32 (cp j) w0.heap.size z32 rfl h5 rfl _ D 32 cd b rfl H32.out.symm ((HRd.out.below HS0.out.1.2.2.2 (Nat.le_refl _))) ?_
  intro w6 O6 g6 _
  rw [copyB_32 H32.out] at O6
  have H6:=Lib.hid (HS0.out.1.copy j (by omega) O6 H32.out g6)
  rw [HSet.out,← Hbq.out] at H6
  clear O6 g6 HS0 h5 C4
  go_wp2_with fail
  refine NoPanic.normal ?_
  go_wp2_with fail
  exact HK.out _ _ _ _ _ _ _ _ _ _ _ _ _ _ _ _ _ _ _ _ _ _ _ _ _ ⟨by omega,by rw [Ht.out,← List.append_assoc,Hbs.out];exact H6.out⟩ (by omega)
 ·obtain rfl:j=l.length:=by omega
  clear HK hr hl hb0 hm hst
  go_wp2_with fail
  exact HX.out _ _ _ _ _ _ _ _ _ _ _ _ _ _ _ _ _ _ _ _ _ _ _ (by trivial)
set_option maxRecDepth 100000 in
set_option maxHeartbeats 3200000 in
theorem erR {w0:World} {A:Option Addr} {c g cap:Nat} {bk cp:Nat→Nat} {l:List It} {b0:List UInt8} {v0:Value} {w:World} (u0 u1 u2 u3 u4 u5 u8 u9 u10 u11 u12 u13 u14 u15 u16 u17 u18 u19 u20 u21 u22 u23 u24 u25 u26 u27 u31 u32 u33 u34 u35 u36 u37 u38 u39 u40 u41 u42 u43 u44 u45 u46 u47 u48 u49 u50 u51 u52 u53 u54 u55 u56 u57 u58:Value) (Q:Exit→Act→World→Prop) (hr:RdI w0 w0.heap.size A l) (hl:l.length ≤ 3) (hb0:b0.length=9) (hm:∀ x ∈ l,0 ≤ x.d∧x.d < 8∧36 ≤ x.a∧x.a < 52∧x.b.length=32) (hI:(0 ≤ l.length∧ErS w0 g cap bk cp v0 (b0 ++ plcB (l.take 0)) (partsB (l.take 0)) w))
    (hX:∀ (v8 v9 v31 v32 v33 v34 v35 v36 v37 v38 v39 v40 v41 v42 v43 v44 v45 v46 v47 v48 v49 v50 v51:Value) (j:Nat) (v:Value) (V:World),(j ≤ l.length∧ErS w0 g cap bk cp v (b0 ++ plcB (l.take j)) (partsB (l.take j)) V)→(j=l.length)→Q (.exit 0) ⟨List.toArray (u0::u1::u2::u3::u4::u5::v::(.slice (some ⟨g,0,none⟩) 3 cap)::v8::v9::u10::u11::u12::u13::u14::u15::u16::u17::u18::u19::u20::u21::u22::u23::u24::u25::u26::u27::(.slice A l.length c)::(.int .i64 (l.length:Int))::(.int .i64 ((j:Nat):Int))::v31::v32::v33::v34::v35::v36::v37::v38::v39::v40::v41::v42::v43::v44::v45::v46::v47::v48::v49::v50::v51::u52::u53::u54::u55::u56::u57::u58::[]),[]⟩ V) :
    Code.wp Tryz.prog (.loop (sub [1,1,1,1,0,1,0,0] codeER)) Q ⟨List.toArray (u0::u1::u2::u3::u4::u5::v0::(.slice (some ⟨g,0,none⟩) 3 cap)::u8::u9::u10::u11::u12::u13::u14::u15::u16::u17::u18::u19::u20::u21::u22::u23::u24::u25::u26::u27::(.slice A l.length c)::(.int .i64 (l.length:Int))::(.int .i64 ((0:Nat):Int))::u31::u32::u33::u34::u35::u36::u37::u38::u39::u40::u41::u42::u43::u44::u45::u46::u47::u48::u49::u50::u51::u52::u53::u54::u55::u56::u57::u58::[]),[]⟩ w:=by
 refine wp_loop_ghost (fun gk a V=>∀ C:Prop,(∀ (u8 u9 u31 u32 u33 u34 u35 u36 u37 u38 u39 u40 u41 u42 u43 u44 u45 u46 u47 u48 u49 u50 u51:Value) (j:Nat) (v:Value),gk=l.length - j→(j ≤ l.length∧ErS w0 g cap bk cp v (b0 ++ plcB (l.take j)) (partsB (l.take j)) V)→a=⟨List.toArray (u0::u1::u2::u3::u4::u5::v::(.slice (some ⟨g,0,none⟩) 3 cap)::u8::u9::u10::u11::u12::u13::u14::u15::u16::u17::u18::u19::u20::u21::u22::u23::u24::u25::u26::u27::(.slice A l.length c)::(.int .i64 (l.length:Int))::(.int .i64 ((j:Nat):Int))::u31::u32::u33::u34::u35::u36::u37::u38::u39::u40::u41::u42::u43::u44::u45::u46::u47::u48::u49::u50::u51::u52::u53::u54::u55::u56::u57::u58::[]),[]⟩→C)→C) (l.length - 0) ?_ ?_
 ·intro C hC
  exact hC _ _ _ _ _ _ _ _ _ _ _ _ _ _ _ _ _ _ _ _ _ _ _ (0) (v0) rfl hI rfl
 ·intro gk a V hI'
  refine hI' _ ?_
  intro u8 u9 u31 u32 u33 u34 u35 u36 u37 u38 u39 u40 u41 u42 u43 u44 u45 u46 u47 u48 u49 u50 u51 j v hk hinv ha
  subst ha
  subst hk
  refine erRb _ _ _ _ _ _ _ _ _ _ _ _ _ _ _ _ _ _ _ _ _ _ _ _ _ _ _ _ _ _ _ _ _ _ _ _ _ _ _ _ _ _ _ _ _ _ _ _ _ _ _ _ _ _ _ _ hr hl hb0 hm hinv (fun v8 v9 v31 v32 v33 v34 v35 v36 v37 v38 v39 v40 v41 v42 v43 v44 v45 v46 v47 v48 v49 v50 v51 v2 V2 h2 hm=>?_) (fun v8 v9 v31 v32 v33 v34 v35 v36 v37 v38 v39 v40 v41 v42 v43 v44 v45 v46 v47 v48 v49 v50 v51 hx=>hX v8 v9 v31 v32 v33 v34 v35 v36 v37 v38 v39 v40 v41 v42 v43 v44 v45 v46 v47 v48 v49 v50 v51 j v V hinv hx)
  refine ⟨_,hm,fun C hC=>?_⟩
  exact hC v8 v9 v31 v32 v33 v34 v35 v36 v37 v38 v39 v40 v41 v42 v43 v44 v45 v46 v47 v48 v49 v50 v51 ((j + 1)) (v2) rfl h2 rfl
end Go.Proofs.YtenkkdnepmoihaaGreatDoor
end
