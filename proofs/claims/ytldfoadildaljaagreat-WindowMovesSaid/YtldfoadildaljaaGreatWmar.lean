/- Texts put together: DskDmg, DskAllD, RecDec, RecWakes, RecKit. -/
import Derived.Test.YtldfoadildaljaaGreatWmao
import Derived.Test.YtldfoadildaljaaGreatWmak
import Derived.Test.YtldfoadildaljaaGreatWmal
import Derived.Test.YtldfoadildaljaaGreatWmap
import Derived.Test.YtldfoadildaljaaGreatWmah
section
set_option maxRecDepth 8000
namespace Go.Proofs.YtldfoadildaljaaGreat
open Go.RowKit
section
variable (B b:Nat) (pv:Value) (D:Dsk) (w:World) (h:DskAt w B b pv D)
include h
theorem dsk_damage_no (k:Int) (A:Option Addr) (n c:Nat) (hk:-9223372036854775808 ≤ k∧k ≤ 9223372036854775807) (hn:n ≤ 140737488355328) (hE:takeE D.f k n ≠ 0) :
    Calls Tryz.prog 56 #[.pointer (some ⟨b,0,none⟩),.int .i64 k,.slice A n c] w fun e w'=>e=.returned (.int .i64 (takeE D.f k n))∧Below w.heap.size w w':=by
 have C:=Lib.hid (dsk_take_any B b pv D (w.alloc (.cells #[.int .i64 k] 3)) (h.below (below1 w _)) k A n c hk hn)
 have hb:=below1 w (.cells #[.int .i64 k] 3)
 clear h
 generalize takeE D.f k n=E at C hE ⊢
 have e2:(E != 0)=true:=by rw [bne_iff_ne];exact hE
 clear hE
 go_enter Tryz.func56,Tryz.ntmps56
 go_wp2_with fail
 refine C.out.mono ?_
 rintro e w' ⟨rfl,rfl⟩
 go_wp2
 go_ret
 exact ⟨rfl,hb⟩
set_option maxHeartbeats 800000 in
theorem dsk_damage_ok (k:Nat) (x:List UInt8) (A:Option Addr) (c:Nat) (hf:D.f=false) (hk:k < 52) (hx:x.length=32) (hr:RdB w w.heap.size A x) (hps:D.ps.length ≤ 2000000) :
    Calls Tryz.prog 56 #[.pointer (some ⟨b,0,none⟩),.int .i64 (k:Int),.slice A 32 c] w fun e w'=>∃ pv',e=.returned (.int .i64 0)∧DskAt w' B b pv' (D.damage k x)∧Chg (DF b pv) w w'∧NewOr w pv pv':=by
 have hB0:=below1 w (.cells #[.int .i64 (k:Int)] 3)
 have Hh:=Lib.hid h
 have H0:=Lib.hid (h.below hB0)
 have C:=Lib.hid (dsk_take_any B b pv D (w.alloc (.cells #[.int .i64 (k:Int)] 3)) H0.out (k:Int) A 32 c (by omega) (by omega))
 have hE:takeE D.f (k:Int) 32=0:=by
  have:reachE D.f (k:Int)=0:=by unfold reachE;rw [hf,if_neg (by simp),if_neg (by omega)]
  unfold takeE;rw [this];rfl
 rw [hE] at C
 obtain ⟨g,off,rfl,hg,hcells⟩:=hr.2 (by omega)
 have Hra:=Lib.hid (show w.rangeAt g off (x.map bv) from fun j v hj=>by
  obtain ⟨hj1,rfl⟩:=List.getElem?_eq_some_iff.1 hj
  have hj2:j < x.length:=by simpa using hj1
  rw [hcells j hj2]
  simp [bv,hj2])
 have Hx:=Lib.hid hx
 have HS:=Lib.hid h.ok.S
 have HN:=Lib.hid h.ok.now
 have harr:=arr_at (some ⟨g,off,none⟩) 32 c (Nat.le_refl _)
 have k0:(0:Int) ≤ (k:Int):=by omega
 have k1:(k:Int) < 52:=by omega
 have Hplt:=Lib.hid h.plt
 have hblt:=h.lt
 have hG0:(w.alloc (.cells #[.int .i64 (k:Int)] 3)).heap[w.heap.size]?=some (.cells #[.int .i64 (k:Int)] 3 (0,0)):=heap_alloc_new _ _
 have Hra0:=Lib.hid (World.rangeAt_alloc Hra.out (.cells #[.int .i64 (k:Int)] 3))
 have HB0:=Lib.hid hB0
 have hs0:(w.alloc (.cells #[.int .i64 (k:Int)] 3)).heap.size=w.heap.size + 1:=by simp
 clear h hcells hr hE hx hB0
 go_enter Tryz.func56,Tryz.ntmps56
 go_wp2_with fail
 generalize hw0:w.alloc (.cells #[.int .i64 (k:Int)] 3)=w0 at C H0 hG0 Hra0 HB0 hs0 ⊢
 generalize hGe:w.heap.size=G at hG0 HB0 hs0 Hplt hblt hg ⊢
 have HGe:=Lib.hid hGe
 have Hw0:=Lib.hid hw0
 clear hGe hw0
 refine C.out.mono ?_
 rintro e w' ⟨rfl,rfl⟩
 have HG0:=Lib.hid hG0
 go_wp2
 refine wp_region_still_tail 8 (by kernel_rfl) (by kernel_rfl) ?_
 simp only [List.take_succ_cons,List.take_zero,List.drop_succ_cons,List.drop_zero]
 change wpStill _ _ w'.drew _ _ _
 have hcG:w'.drew.cell? ⟨G,0,none⟩=some (.int .i64 (k:Int)):=cell_of_row w' G 0 _ _ _ HG0.out
 still_step
 still_step
 still_step
 still_step
 refine wpStill_load_mid rfl 93 _ (by rfl) g off (by rfl) (x.map bv) _ ((World.rangeAt_drew _ _ _ _).2 Hra0.out) Tryz.underlying93 rfl (by rw [List.length_map,Hx.out];exact size_sec) ?_
 repeat still_step
 refine wpStill_nil ?_
 change wpList _ _ _ _ _ w'.drew
 refine wpList_store_blk rfl 93 _ _ (by rfl) b (k * 32) (.agg (x.map bv).toArray) (by rfl) (by rfl) (dcells D.S D.now pv D.f) 97 H0.out.blk (x.map bv) (by rfl) 32 (by rw [List.length_map,Hx.out]) size_sec (by rw [dcells_len HS.out HN.out];omega) map_bv_one (dcells (putAt D.S k x) D.now pv D.f) (spl_Ssec HS.out hk Hx.out) ?_
 intro w1 hb1 hg1
 have HS':=Lib.hid (show (putAt D.S k x).length=1664 from putAt_len HS.out (by omega) Hx.out)
 have HN':=Lib.hid (show (putAt D.now k x).length=1664 from putAt_len HN.out (by omega) Hx.out)
 have HG1:=Lib.hid ((hg1.block G (show G < w'.heap.size by omega) (by intro e;injection e with e;omega)).trans HG0.out)
 have hr1:=range_sec (k:=k) (range_S hb1)
 rw [sec_put_same HS.out hk Hx.out,Nat.zero_add] at hr1
 have Hr1:=Lib.hid hr1
 have Hb1:=Lib.hid hb1
 have Hg1:=Lib.hid (show w'.grownBy w1 (some b) from ⟨hg1.os,hg1.tape,hg1.output,hg1.size,hg1.block⟩)
 clear hb1 hg1 hr1 hcG hG0
 go_wp2
 refine wp_region_still_tail 11 (by kernel_rfl) (by kernel_rfl) ?_
 simp only [List.take_succ_cons,List.take_zero,List.drop_succ_cons,List.drop_zero]
 change wpStill _ _ w1.drew _ _ _
 have hcG:w1.drew.cell? ⟨G,0,none⟩=some (.int .i64 (k:Int)):=cell_of_row w1 G 0 _ _ _ HG1.out
 still_step
 still_step
 still_step
 still_step
 still_step
 still_step
 still_step
 refine wpStill_load_mid rfl 93 _ (by rfl) b (k * 32) (by rfl) (x.map bv) _ ((World.rangeAt_drew _ _ _ _).2 Hr1.out) Tryz.underlying93 rfl (by rw [List.length_map,Hx.out];exact size_sec) ?_
 repeat still_step
 refine wpStill_nil ?_
 change wpList _ _ _ _ _ w1.drew
 refine wpList_store_blk rfl 93 _ _ (by rfl) b (1664 + k * 32) (.agg (x.map bv).toArray) (by rfl) (by rfl) (dcells (putAt D.S k x) D.now pv D.f) 97 Hb1.out (x.map bv) (by rfl) 32 (by rw [List.length_map,Hx.out]) size_sec (by rw [dcells_len HS'.out HN.out];omega) map_bv_one (dcells (putAt D.S k x) (putAt D.now k x) pv D.f) (spl_Nsec HS'.out HN.out hk Hx.out) ?_
 intro w2 hb2 hg2
 have hc12:Chg (fun j=>j=b) w' w2:=(chg_grown Hg1.out).trans (chg_grown hg2).ofDrew (fun _ _ e=>e) |>.mono fun i _ e=>by injection e with e;exact e.symm
 have hG2:=(hg2.block G (show G < w1.heap.size by have:=Hg1.out.size;omega) (by intro e;injection e with e;omega)).trans HG1.out
 have hcG2:w2.cell? ⟨G,0,none⟩=some (.int .i64 (k:Int)):=cell_of_row w2 G 0 _ _ _ hG2
 have hG2lt:G < w2.heap.size:=(Array.getElem?_eq_some_iff.1 hG2).1
 have hown2:w2.ownsRow B 99 33 pv D.ps.length (wcells D.ps):=own_chg H0.out.own hc12 fun j hj e=>H0.out.ne (by rw [hj,e])
 have hcp:=cell_dpv hb2 HS'.out HN'.out
 have CD:=Lib.hid (deletef_any pv B D.ps G k w2 hown2 Hh.out.ok.ps hps hcG2 hG2lt (fun e=>by have:=(Hplt.out G e).2;omega))
 have Hb2:=Lib.hid hb2
 have Hc12:=Lib.hid hc12
 have hb2lt:b < w2.heap.size:=(Array.getElem?_eq_some_iff.1 hb2).1
 have hmf:∀ (fn:Fn) (first cap:Array Value) (w:World),(Instr.makeFunc fn first cap).run Tryz.prog w=.ok (.func fn first cap) w:=fun _ _ _ _=>rfl
 clear hb2 hg2 hc12 hG2 hcG2 hown2 hcG
 go_wp2_with fail
 refine CD.out.mono ?_
 rintro e w3 ⟨v3,rfl,hown3,hc3,hv3⟩
 have Hb3:=Lib.hid ((hc3.block b hb2lt (Hh.out.ne)).trans Hb2.out)
 have hv1:v3.oneCell'=true:=by rcases hown3.2 with ⟨rfl,_⟩ | ⟨g,cap,cur,rfl,_⟩ <;> rfl
 have hvc:v3.cells=#[v3]:=by rcases hown3.2 with ⟨rfl,_⟩ | ⟨g,cap,cur,rfl,_⟩ <;> rfl
 have Hown3:=Lib.hid hown3
 have Hc3:=Lib.hid hc3
 have Hv1:=Lib.hid hv1
 have Hvc:=Lib.hid hvc
 clear hown3 hc3 hv1 hvc hcp
 go_wp2_with (refine wpList_store_blk rfl 95 _ _ (by rfl) b 3328 v3 (by rfl) (by rfl) (dcells (putAt D.S k x) (putAt D.now k x) pv D.f) 97 Hb3.out [v3] Hvc.out 1 (by rfl) size_pend (by rw [dcells_len HS'.out HN'.out];omega) (by intro u hu;simp at hu;subst hu;exact Hv1.out) (dcells (putAt D.S k x) (putAt D.now k x) v3 D.f) (spl_pv HS'.out HN'.out) ?_;intro w4 h4 hg4)
 go_ret
 have hne:v3.ownBlock ≠ some b:=fun e=>Hh.out.ne (hv3 b e)
 refine ⟨v3,rfl,⟨?_,?_,Hh.out.le,hne,Hh.out.ok.damage hk Hx.out⟩,?_,fun j hj=>.inl (hv3 j hj)⟩
 ·rw [Dsk.damage_now Hh.out.ok hk Hx.out];exact h4
 ·exact own_heap Hown3.out fun j hj=>hg4.block j (Hown3.out.lt j hj).2 (by intro e;injection e with e;exact hne (by rw [hj,e]))
 ·have c0:Chg (DF b pv) w w':=by rw [← Hw0.out];exact chg_below _ (below1 w _)
  exact ((c0.trans Hc12.out fun i _ e=>.inl e).trans Hc3.out fun i _ e=>.inr e).trans (chg_grown hg4) fun i _ e=>.inl (by injection e with e;exact e.symm)
end
end Go.Proofs.YtldfoadildaljaaGreat
end
section
namespace Go.Proofs.YtldfoadildaljaaGreat
open Go.RowKit
theorem dsk_damage_any (B b:Nat) (pv:Value) (D:Dsk) (w:World) (h:DskAt w B b pv D) (k:Int) (x:List UInt8) (A:Option Addr) (n c:Nat) (hn:n=x.length) (hk:-9223372036854775808 ≤ k∧k ≤ 9223372036854775807) (hr:RdB w w.heap.size A x) (hps:D.ps.length ≤ 2000000) :
    Calls Tryz.prog 56 #[.pointer (some ⟨b,0,none⟩),.int .i64 k,.slice A n c] w fun e w'=>∃ pv',e=.returned (.int .i64 (takeE D.f k n))∧DskAt w' B b pv' (D.damageE k x)∧Chg (DF b pv) w w'∧NewOr w pv pv':=by
 subst hn
 unfold Dsk.damageE
 by_cases he:takeE D.f k x.length=0
 ·obtain ⟨hf,h0,h1,hl⟩:=takeE_zero he
  have e:=dsk_damage_ok B b pv D w h k.toNat x A c hf (by omega) hl hr hps
  rw [Int.toNat_of_nonneg h0] at e
  rw [if_pos he,he,hl]
  exact e
 ·rw [if_neg he]
  refine (dsk_damage_no B b pv D w h k A x.length c hk (by have:=hr.1;omega) he).mono ?_
  rintro e w' ⟨rfl,hb⟩
  exact ⟨pv,rfl,h.below hb,chg_below _ hb,NewOr.refl _ _⟩
end Go.Proofs.YtldfoadildaljaaGreat
end
section
set_option maxRecDepth 8000
set_option linter.unusedVariables false
set_option linter.unusedSimpArgs false
namespace Go.Proofs.YtldfoadildaljaaGreat
open Go.RowKit
end Go.Proofs.YtldfoadildaljaaGreat
end
section
set_option linter.unusedVariables false
set_option linter.unusedSimpArgs false
namespace Go.Proofs.YtldfoadildaljaaGreat
open Go.RowKit
end Go.Proofs.YtldfoadildaljaaGreat
end
section
set_option maxRecDepth 8000
set_option linter.unusedVariables false
set_option linter.unusedSimpArgs false
namespace Go.Proofs.YtldfoadildaljaaGreat
open Go.RowKit
section
variable {lo:Nat} {W:World} {g:Nat} {bk:Nat→Nat} {rs:List (List UInt8)}
end
end Go.Proofs.YtldfoadildaljaaGreat
end
