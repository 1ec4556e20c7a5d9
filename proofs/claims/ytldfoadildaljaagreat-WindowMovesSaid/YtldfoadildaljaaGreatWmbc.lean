/- Texts put together: PlayLive, LogSmall, LogSettle, LogOn. -/
import Derived.Test.YtldfoadildaljaaGreatWmay
import Derived.Test.YtldfoadildaljaaGreatWmad
import Derived.Test.YtldfoadildaljaaGreatWmav
import Derived.Test.YtldfoadildaljaaGreatWmal
import Derived.Test.YtldfoadildaljaaGreatWmar
section
set_option maxRecDepth 8000
set_option linter.unusedVariables false
set_option linter.unusedSimpArgs false
namespace Go.Proofs.YtldfoadildaljaaGreat
open Go.RowKit
def liveB (n:Int) (d i:Nat):Bool:=if 0 < withinI n 3∧withinI (n.tdiv 3) d=(i:Int) then false else if withinI n 9=8∧withinI (n.tdiv 27) d=(i:Int) then false else true
def liveL (n:Int) (d:Nat):List Bool:=(List.range d).map (liveB n d)
theorem liveL_len (n:Int) (d:Nat):(liveL n d).length=d:=by unfold liveL;simp
theorem liveL_get (n:Int) {d i:Nat} (h:i < d):(liveL n d).getD i false=liveB n d i:=by unfold liveL;simp [h]
theorem live_row {w:World} {g d:Nat} {G:Nat→Value} {n:Int} (h:w.heap[g]?=some (.cells (rowOf G d).toArray 4 (0,0))) (hG:∀ j,j < d→G j=.bool (liveB n d j)):w.heap[g]?=some (.cells ((liveL n d).map Value.bool).toArray 4 (0,0)):=by
 rw [h]
 have:rowOf G d=(liveL n d).map Value.bool:=by
  unfold rowOf liveL
  rw [List.map_map]
  exact List.map_congr_left fun j hj=>hG j (List.mem_range.1 hj)
 rw [this]
theorem tdiv_bd (n k:Int) (hn:(-9223372036854775808 ≤ n∧n ≤ 9223372036854775807)) (hk:1 ≤ k):(-9223372036854775808 ≤ n.tdiv k∧n.tdiv k ≤ 9223372036854775807):=by
 have h:(n.tdiv k).natAbs ≤ n.natAbs:=by rw [Int.natAbs_tdiv];exact Nat.div_le_self _ _
 rcases Int.le_total 0 n with h0 | h0
 ·have:=Int.tdiv_nonneg h0 (show 0 ≤ k by omega)
  omega
 ·have:n.tdiv k ≤ 0:=by
    have h1:=Int.tdiv_nonneg (a:=-n) (b:=k) (by omega) (by omega)
    rw [Int.neg_tdiv] at h1;omega
  omega
set_option maxRecDepth 100000 in
set_option maxHeartbeats 4000000 in
theorem live_any (n:Int) (d:Nat) (w:World) (hn:(-9223372036854775808 ≤ n∧n ≤ 9223372036854775807)) (hd:1 ≤ d∧d ≤ 8) :
    Calls Tryz.prog 7 #[.int .i64 n,.int .i64 (d:Int)] w fun e w'=>∃ g,e=.returned (.slice (some ⟨g,0,none⟩) d d)∧w'.heap[g]?=some (.cells ((liveL n d).map Value.bool).toArray 4 (0,0))∧w.heap.size ≤ g∧Below w.heap.size w w':=by
 have hmb:=make_bools d (by omega)
 have W3:=Lib.hid (fun V=>within_any n 3 V hn (by omega))
 have W9:=Lib.hid (fun V=>within_any n 9 V hn (by omega))
 have Wa:=Lib.hid (fun V=>within_any (n.tdiv 3) (d:Int) V (tdiv_bd n 3 hn (by omega)) (by omega))
 have Wb:=Lib.hid (fun V=>within_any (n.tdiv 27) (d:Int) V (tdiv_bd n 27 hn (by omega)) (by omega))
 have HL:=Lib.hid (fun (V:World) (g:Nat) (G:Nat→Value)=>live_row (w:=V) (g:=g) (d:=d) (G:=G) (n:=n))
 have Hlb:Hid (∀ j,liveB n d j=if 0 < withinI n 3∧withinI (n.tdiv 3) d=(j:Int) then false else if withinI n 9=8∧withinI (n.tdiv 27) d=(j:Int) then false else true):=fun j=>rfl
 have ba:=withinI_bd (n.tdiv 3) (d:Int) (by omega)
 have bb:=withinI_bd (n.tdiv 27) (d:Int) (by omega)
 obtain ⟨a,ha⟩:=Int.eq_ofNat_of_zero_le ba.1
 obtain ⟨c,hc⟩:=Int.eq_ofNat_of_zero_le bb.1
 rw [ha] at Wa ba Hlb
 rw [hc] at Wb bb Hlb
 generalize withinI n 3=q3 at W3 Hlb
 generalize withinI n 9=q9 at W9 Hlb
 have d0:(0:Int) ≤ (d:Int):=by omega
 have d1:(0:Int) < (d:Int):=by omega
 have a0:(0:Int) ≤ (a:Int):=by omega
 have c0:(0:Int) ≤ (c:Int):=by omega
 have ad:a < d:=by omega
 have cd:c < d:=by omega
 have hi3:=tdiv_bd n 3 hn (by omega)
 have hi27:=tdiv_bd n 27 hn (by omega)
 clear ha hc
 go_enter Tryz.func7,Tryz.ntmps7
 go_wp2
 go_name_world w1 hw1
 have h1:w1.heap[w.heap.size]?=some (.cells (rowOf (fun _=>.bool false) d).toArray 4 (0,0)):=by rw [← hw1];exact hp_new _ _ _ rfl
 have B1:=Lib.hid (show Below w.heap.size w w1 by rw [← hw1];exact below1 _ _)
 have H1:=Lib.hid h1
 clear hw1 h1
 generalize hgw:w.heap.size=g at *
 have Hgw:=Lib.hid hgw
 clear hgw
 go_loopw [11] (fun i wr=>∃ (j:Nat) (G:Nat→Value),j ≤ d∧i=.int .i64 j∧wr.heap[g]?=some (.cells (rowOf G d).toArray 4 (0,0))∧(∀ k,k < j→G k=.bool true)∧Below g w wr) (fun i _=>d - (intOf i).toNat)
 case atStart=>exact ⟨0,_,Nat.zero_le _,rfl,H1.out,fun k hk=>by omega,B1.out⟩
 case round =>
  obtain ⟨j,G,hj,rfl,hG,hall,hb⟩:=hrel
  have HG:=Lib.hid hG
  have Hall:=Lib.hid hall
  have Hb:=Lib.hid hb
  clear hG hall hb H1
  have hgl:=(Array.getElem?_eq_some_iff.1 HG.out).1
  by_cases hlt:j < d
  ·have i0:(0:Int) ≤ (j:Int):=by omega
   have i1:(j:Int) < (d:Int):=by omega
   go_wp2_with (refine wpList_store_blk rfl 4 _ _ (by rfl) g j (.bool true) (by rfl) (by rfl) (rowOf G d) 4 HG.out [.bool true] (by rfl) 1 rfl size_bool1 (by rw [rowOf_len];omega) (by intro u hu;rw [List.mem_singleton.1 hu];rfl) (rowOf (upd G j (.bool true)) d) (rowOf_set G _ hlt) ?_;intro w2 h2 g2)
   go_roundw
   case rel=>exact ⟨j + 1,upd G j (.bool true),by omega,by go_num,h2,fun k hk=>by
    by_cases e:k=j
    ·subst e;rw [upd_same]
    ·rw [upd_other _ _ e];exact Hall.out k (by omega),Hb.out.grown g2 (by have:=Hb.out.size;rw [Hgw.out] at this;omega) (fun j e=>by injection e with e;omega)⟩
   case measure=>simp [intOf];omega
  ·obtain rfl:j=d:=by omega
   have hz:g ≤ wr.heap.size:=by have:=Hb.out.size;rw [Hgw.out] at this;exact this
   by_cases h3:0 < q3
   ·by_cases h9:q9=8
    ·have Hl:=Lib.hid (fun i=>(Hlb.out i).trans (show _=if (a:Int)=(i:Int) then false else if (c:Int)=(i:Int) then false else true by simp only [h3,h9,true_and]))
     subst h9
     go_wp2_with (first
    |(go_at_call 8;(with_reducible refine (W3.out _).mono ?_);rintro e wxW3 ⟨rfl,rfl⟩)
    |(go_at_call 8;(with_reducible refine (Wa.out _).mono ?_);rintro e wxWa ⟨rfl,rfl⟩)
    |(go_at_call 8;(with_reducible refine (W9.out _).mono ?_);rintro e wxW9 ⟨rfl,rfl⟩)
    |(go_at_call 8;(with_reducible refine (Wb.out _).mono ?_);rintro e wxWb ⟨rfl,rfl⟩)
    |(refine wpList_store_blk rfl 4 _ _ (by rfl) g a (.bool false) (by rfl) (by rfl) (rowOf G j) 4 HG.out [.bool false] (by rfl) 1 rfl size_bool1 (by rw [rowOf_len];omega) (by intro u hu;rw [List.mem_singleton.1 hu];rfl) (rowOf (upd G a (.bool false)) j) (rowOf_set _ _ ad) ?_
      intro w2 h2 g2
      have HG2:=Lib.hid h2
      have Hb2:=Lib.hid (Hb.out.grown g2 (by have:=Hb.out.size;rw [Hgw.out] at this;exact this) (fun j e=>by injection e with e;omega))
      clear h2 g2)
    |(refine wpList_store_blk rfl 4 _ _ (by rfl) g c (.bool false) (by rfl) (by rfl) (rowOf (upd G a (.bool false)) j) 4 HG2.out [.bool false] (by rfl) 1 rfl size_bool1 (by rw [rowOf_len];omega) (by intro u hu;rw [List.mem_singleton.1 hu];rfl) (rowOf (upd (upd G a (.bool false)) c (.bool false)) j) (rowOf_set _ _ cd) ?_
      intro w3 h3 g3
      have HG3:=Lib.hid h3
      have Hb3:=Lib.hid (Hb2.out.grown g3 (by have:=Hb2.out.size;rw [Hgw.out] at this;exact this) (fun j e=>by injection e with e;omega))
      clear h3 g3))
     go_ret
     exact ⟨g,rfl,HL.out _ _ _ HG3.out (fun i hi=>by
      rw [Hl.out i]
      by_cases e1:i=c
      ·subst e1;rw [upd_same];split;rfl;rw [if_pos rfl]
      ·rw [upd_other _ _ e1]
       by_cases e2:i=a
       ·subst e2;rw [upd_same,if_pos rfl]
       ·rw [upd_other _ _ e2,if_neg (by omega),if_neg (by omega)];exact Hall.out i hi),Nat.le_of_eq Hgw.out,by rw [Hgw.out];exact Hb3.out⟩
    ·have Hl:=Lib.hid (fun i=>(Hlb.out i).trans (show _=if (a:Int)=(i:Int) then false else true by simp only [h3,h9,true_and,false_and,if_false]))
     have b9:(q9 == 8)=false:=by rw [beq_eq_false_iff_ne];exact h9
     go_wp2_with (first
    |(go_at_call 8;(with_reducible refine (W3.out _).mono ?_);rintro e wxW3 ⟨rfl,rfl⟩)
    |(go_at_call 8;(with_reducible refine (Wa.out _).mono ?_);rintro e wxWa ⟨rfl,rfl⟩)
    |(go_at_call 8;(with_reducible refine (W9.out _).mono ?_);rintro e wxW9 ⟨rfl,rfl⟩)
    |(refine wpList_store_blk rfl 4 _ _ (by rfl) g a (.bool false) (by rfl) (by rfl) (rowOf G j) 4 HG.out [.bool false] (by rfl) 1 rfl size_bool1 (by rw [rowOf_len];omega) (by intro u hu;rw [List.mem_singleton.1 hu];rfl) (rowOf (upd G a (.bool false)) j) (rowOf_set _ _ ad) ?_
      intro w2 h2 g2
      have HG2:=Lib.hid h2
      have Hb2:=Lib.hid (Hb.out.grown g2 (by have:=Hb.out.size;rw [Hgw.out] at this;exact this) (fun j e=>by injection e with e;omega))
      clear h2 g2))
     go_ret
     exact ⟨g,rfl,HL.out _ _ _ HG2.out (fun i hi=>by
      rw [Hl.out i]
      by_cases e2:i=a
      ·subst e2;rw [upd_same,if_pos rfl]
      ·rw [upd_other _ _ e2,if_neg (by omega)];exact Hall.out i hi),Nat.le_of_eq Hgw.out,by rw [Hgw.out];exact Hb2.out⟩
   ·by_cases h9:q9=8
    ·have Hl:=Lib.hid (fun i=>(Hlb.out i).trans (show _=if (c:Int)=(i:Int) then false else true by simp only [h3,h9,true_and,false_and,if_false]))
     subst h9
     go_wp2_with (first
    |(go_at_call 8;(with_reducible refine (W3.out _).mono ?_);rintro e wxW3 ⟨rfl,rfl⟩)
    |(go_at_call 8;(with_reducible refine (W9.out _).mono ?_);rintro e wxW9 ⟨rfl,rfl⟩)
    |(go_at_call 8;(with_reducible refine (Wb.out _).mono ?_);rintro e wxWb ⟨rfl,rfl⟩)
    |(refine wpList_store_blk rfl 4 _ _ (by rfl) g c (.bool false) (by rfl) (by rfl) (rowOf G j) 4 HG.out [.bool false] (by rfl) 1 rfl size_bool1 (by rw [rowOf_len];omega) (by intro u hu;rw [List.mem_singleton.1 hu];rfl) (rowOf (upd G c (.bool false)) j) (rowOf_set _ _ cd) ?_
      intro w3 h3 g3
      have HG3:=Lib.hid h3
      have Hb3:=Lib.hid (Hb.out.grown g3 (by have:=Hb.out.size;rw [Hgw.out] at this;exact this) (fun j e=>by injection e with e;omega))
      clear h3 g3))
     go_ret
     exact ⟨g,rfl,HL.out _ _ _ HG3.out (fun i hi=>by
      rw [Hl.out i]
      by_cases e1:i=c
      ·subst e1;rw [upd_same,if_pos rfl]
      ·rw [upd_other _ _ e1,if_neg (by omega)];exact Hall.out i hi),Nat.le_of_eq Hgw.out,by rw [Hgw.out];exact Hb3.out⟩
    ·have Hl:=Lib.hid (fun i=>(Hlb.out i).trans (show _=true by simp only [h3,h9,false_and,if_false]))
     have b9:(q9 == 8)=false:=by rw [beq_eq_false_iff_ne];exact h9
     go_wp2_with (first
    |(go_at_call 8;(with_reducible refine (W3.out _).mono ?_);rintro e wxW3 ⟨rfl,rfl⟩)
    |(go_at_call 8;(with_reducible refine (W9.out _).mono ?_);rintro e wxW9 ⟨rfl,rfl⟩))
     go_ret
     exact ⟨g,rfl,HL.out _ _ _ HG.out (fun i hi=>by rw [Hl.out i];exact Hall.out i hi),Nat.le_of_eq Hgw.out,by rw [Hgw.out];exact Hb.out⟩
end Go.Proofs.YtldfoadildaljaaGreat
end
section
set_option maxRecDepth 8000
set_option linter.unusedVariables false
set_option linter.unusedSimpArgs false
namespace Go.Proofs.YtldfoadildaljaaGreat
open Go.RowKit
end Go.Proofs.YtldfoadildaljaaGreat
end
section
set_option maxRecDepth 8000
set_option linter.unusedVariables false
set_option linter.unusedSimpArgs false
namespace Go.Proofs.YtldfoadildaljaaGreat
open Go.RowKit
end Go.Proofs.YtldfoadildaljaaGreat
end
section
set_option maxRecDepth 8000
set_option linter.unusedVariables false
set_option linter.unusedSimpArgs false
namespace Go.Proofs.YtldfoadildaljaaGreat
open Go.RowKit
section
variable {w V V':World} {g j:Nat} {rs:List (List UInt8)}
end
end Go.Proofs.YtldfoadildaljaaGreat
end
