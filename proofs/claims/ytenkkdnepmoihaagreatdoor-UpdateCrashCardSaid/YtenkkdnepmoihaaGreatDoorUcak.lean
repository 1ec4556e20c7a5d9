/- Texts put together: PlayGood, PlaceOf, PlaceNums, RefOf, MapRow. -/
import Derived.Test.YtenkkdnepmoihaaGreatDoorUcab
import Derived.Test.YtenkkdnepmoihaaGreatDoorUcag
import Derived.Test.YtenkkdnepmoihaaGreatDoorUcaf
section
set_option linter.unusedVariables false
set_option linter.unusedSimpArgs false
namespace Go.Proofs.YtenkkdnepmoihaaGreatDoor
open Go.RowKit
def pgO (n:Int):Bool:=gOk (pgL n) (pgD n) (pgC n)
def goL (n:Int):Int:=if pgO n=true then pgL n else 5
def goD (n:Int):Int:=if pgO n=true then pgD n else 3
def goC (n:Int):Int:=if pgO n=true then pgC n else 1
theorem go_ok (n:Int):gOk (goL n) (goD n) (goC n)=true:=by
 unfold goL goD goC
 cases h:pgO n
 ·rfl
 ·simp;exact h
theorem below_cells {W w1:World} (hb:Below W.heap.size W w1):(∀ b o,b < W.heap.size→w1.cell? ⟨b,o,none⟩=W.cell? ⟨b,o,none⟩)∧(∀ b o,b < W.heap.size→w1.frozen? ⟨b,o,none⟩=W.frozen? ⟨b,o,none⟩) :=
 ⟨fun b o h=>hb.cell (p:=⟨b,o,none⟩) h,fun b o h=>hb.frozen (p:=⟨b,o,none⟩) h⟩
set_option maxHeartbeats 1000000 in
theorem playGood_any (n:Int) (w:World) (hn:-9223372036854775808 ≤ n∧n ≤ 9223372036854775807) :
    Calls Tryz.prog 7 #[.int .i64 n] w fun e w'=>e=.returned (.agg #[.int .i64 (goL n),.int .i64 (goD n),.int .i64 (goC n)])∧Below w.heap.size w w':=by
 have HP:=Lib.hid (fun W=>playGeom_any n W hn)
 have b:=pg_bd n
 have HC:=Lib.hid (fun W=>refCheck_any (pgL n) (pgD n) (pgC n) W (by omega) (by omega) (by omega))
 obtain ⟨L,hL⟩:∃ L,L=goL n:=⟨_,rfl⟩
 obtain ⟨D,hD⟩:∃ D,D=goD n:=⟨_,rfl⟩
 obtain ⟨C,hC⟩:∃ C,C=goC n:=⟨_,rfl⟩
 have HL:=Lib.hid (hL.trans (show goL n=if gOk (pgL n) (pgD n) (pgC n)=true then pgL n else 5 from rfl))
 have HD:=Lib.hid (hD.trans (show goD n=if gOk (pgL n) (pgD n) (pgC n)=true then pgD n else 3 from rfl))
 have HK:=Lib.hid (hC.trans (show goC n=if gOk (pgL n) (pgD n) (pgC n)=true then pgC n else 1 from rfl))
 rw [← hL,← hD,← hC]
 clear hL hD hC
 generalize pgL n=l at b HP HC HL HD HK
 generalize pgD n=d at b HP HC HL HD HK
 generalize pgC n=c at b HP HC HL HD HK
 generalize gOk l d c=ok at HC HL HD HK
 have G:=gat_new w 0 0 0 24 (0,0)
 go_enter Tryz.func7,Tryz.ntmps7
 go_wp2_with fail
 (with_reducible refine (HP.out _).mono ?_);rintro e w1 ⟨rfl,hb⟩
 obtain ⟨hc1,hf1⟩:=below_cells hb
 have G1:=(G.below hb (by simp)).below (below1 w1 (.cells #[.int .i64 l,.int .i64 d,.int .i64 c] 24)) (by have:=hb.size;simp at this;omega)
 have hz1:w.heap.size < w1.heap.size:=by have:=hb.size;simp at this;omega
 have F1:=(below1 w _).trans (hb.mono (by simp))
 clear hb
 go_wp2_with fail
 (with_reducible refine (HC.out _).mono ?_);rintro e w2 ⟨rfl,hb⟩
 obtain ⟨hc2,hf2⟩:=below_cells hb
 obtain ⟨g1,g2,g3⟩:=G1.below hb (by simp;omega)
 have hz2:w1.heap.size < w2.heap.size:=by have:=hb.size;simp at this;omega
 have F2:=F1.trans (((below1 w1 _).trans (hb.mono (by simp))).mono F1.size)
 clear hb F1
 cases ok
 ·go_wp2_with fail
  refine bodyPost_ret (v:=.agg #[.int .i64 5,.int .i64 3,.int .i64 1]) (by simp [results,Tryz.results7,go_sem,g1,g2,g3]) rfl ⟨?_,?_⟩
  ·rw [HL.out,HD.out,HK.out];rfl
  ·exact ((F2.setCell (Nat.le_refl _) _).setCell (Nat.le_refl _) _).setCell (Nat.le_refl _) _
 ·go_wp2_with fail
  refine bodyPost_ret (v:=.agg #[.int .i64 l,.int .i64 d,.int .i64 c]) (by simp [results,Tryz.results7,go_sem,g1,g2,g3]) rfl ⟨?_,?_⟩
  ·rw [HL.out,HD.out,HK.out];rfl
  ·exact ((F2.setCell (Nat.le_refl _) _).setCell (Nat.le_refl _) _).setCell (Nat.le_refl _) _
end Go.Proofs.YtenkkdnepmoihaaGreatDoor
end
section
set_option linter.unusedVariables false
set_option linter.unusedSimpArgs false
namespace Go.Proofs.YtenkkdnepmoihaaGreatDoor
open Go.RowKit
theorem of_any (l d c n:Int) (w:World) (hl:(-9223372036854775808 ≤ l∧l ≤ 9223372036854775807)) (hd:(-9223372036854775808 ≤ d∧d ≤ 9223372036854775807)) (hc:(-9223372036854775808 ≤ c∧c ≤ 9223372036854775807)) (hn:(-9223372036854775808 ≤ n∧n ≤ 9223372036854775807)) :
    Calls Tryz.prog 48 #[.agg #[.int .i64 l,.int .i64 d,.int .i64 c],.int .i64 n] w fun e w'=>e=.returned (.tuple #[.int .i64 (plOfD l d c n),.int .i64 (plOfR l d c n),.bool (plOfOk l d c n)])∧Below w.heap.size w w':=by
 have G:=gat_new w l d c 24 (0,0)
 have HD:Hid (∀ b,plOfOk l d c n=b→plOfD l d c n=if b=true then plD l d c (plRow l d c n) (n / c % (d - (l - 4))) else 0):=Lib.hid (fun b h=>by subst h;rfl)
 have HR:Hid (∀ b,plOfOk l d c n=b→plOfR l d c n=if b=true then plRow l d c n else 0):=Lib.hid (fun b h=>by subst h;rfl)
 have HC:=Lib.hid (fun W=>capacity_any l d c W hl hd hc)
 have hb7:=gCap_bd l d c
 by_cases h0:n < 0
 ·have H:=Lib.hid (plOfOk_no (l:=l) (d:=d) (c:=c) (n:=n) (by omega))
  have H1:=Lib.hid ((HD.out false H.out).trans (if_neg (by decide)))
  have H2:=Lib.hid ((HR.out false H.out).trans (if_neg (by decide)))
  have e0:decide (n < 0)=true:=decide_eq_true h0
  go_enter Tryz.func48,Tryz.ntmps48
  go_wp2_with fail
  go_ret3
  exact ⟨by rw [H.out,H1.out,H2.out];rfl,below1 _ _⟩
 ·have e0:decide (n < 0)=false:=decide_eq_false h0
  by_cases h1:gCap l d c ≤ n
  ·have H:=Lib.hid (plOfOk_no (l:=l) (d:=d) (c:=c) (n:=n) (by omega))
   have H1:=Lib.hid ((HD.out false H.out).trans (if_neg (by decide)))
   have H2:=Lib.hid ((HR.out false H.out).trans (if_neg (by decide)))
   clear HD HR
   generalize gCap l d c=cp at HC h1 hb7
   have e1:decide (cp ≤ n)=true:=decide_eq_true h1
   go_enter Tryz.func48,Tryz.ntmps48
   go_wp2_with fail
   (with_reducible refine (HC.out _).mono ?_);rintro e w1 ⟨rfl,hb⟩
   have F:=(below1 w _).trans (hb.mono (by simp))
   clear hb
   go_wp2_with fail
   go_ret3
   exact ⟨by rw [H.out,H1.out,H2.out];rfl,F⟩
  ·have hok:plOfOk l d c n=true:=decide_eq_true (by omega)
   have H:=Lib.hid hok
   have hg:=plOfOk_ok hok
   have hb6:=gOk_bd hg
   have hcp:=gCap_yes hg
   have hgw:=gWid_yes hg
   have H1:=Lib.hid ((HD.out true hok).trans (if_pos rfl))
   have H2:=Lib.hid ((HR.out true hok).trans (if_pos rfl))
   have HW:=Lib.hid (fun W=>width_any l d c W hl hd hc)
   have hw:=gWid_bd l d c
   rw [← hgw] at H1
   have H3:Hid (plRow l d c n=n / c / gWid l d c * c + n % c):=by rw [hgw];rfl
   generalize plRow l d c n=row at H1 H2 H3
   have hcw:gCap l d c=gWid l d c * 16:=rfl
   generalize gWid l d c=wd at HW hw H1 H3 hgw hcw
   rw [hcw] at HC h1 hb7
   have hch:=quo_bd 112 (show 0 ≤ n by omega) (show n < 112 by omega) (show 1 ≤ c by omega)
   have e1:decide (wd * 16 ≤ n)=false:=decide_eq_false h1
   generalize hqq:n / c=ch at H1 H3 hch
   have hst:=quo_bd 112 hch.1 hch.2 (show 1 ≤ wd by omega)
   have hk:=rem_bd ch (show 1 ≤ wd by omega)
   have hm:=rem_bd n (show 1 ≤ c by omega)
   have t1:n.tdiv c=ch:=by rw [Int.tdiv_eq_ediv_of_nonneg (by omega)];exact hqq
   have hx:0 ≤ ch / wd * c∧ch / wd * c ≤ 112 * 4:=⟨Int.mul_nonneg hst.1 (by omega),Int.mul_le_mul (by omega) (by omega) (by omega) (by omega)⟩
   have hrow:0 ≤ row∧row ≤ 1000:=by rw [H3.out];omega
   have HK:=Lib.hid (fun W=>disk_any l d c row (ch % wd) W hl hd hc (by omega) (by omega))
   have n1:¬ c=0:=by omega
   have n2:¬ wd=0:=by omega
   have i0:0 ≤ n:=by omega
   have z0:IntKind.i64.wrap ch=ch:=IntWalk.i64_in _ (by omega)
   clear hqq HD HR hok hg hcp h0 h1 hgw hcw
   go_enter Tryz.func48,Tryz.ntmps48
   go_wp2_with fail
   (with_reducible refine (HC.out _).mono ?_);rintro e w1 ⟨rfl,hb⟩
   have S1:=GS.later (w0:=w) (B:=w.heap.size) ⟨G.1,G.2.1,G.2.2,below1 w _⟩ hb
   clear hb G
   obtain ⟨g1,g2,g3,F⟩:=S1
   go_wp2_with fail
   have S0:GS w w.heap.size w.heap.size l d c w1:=⟨g1,g2,g3,F⟩
   clear g1 g2 g3 F
   go_region_held3 (GS w w.heap.size w.heap.size l d c)
    (first | assumption | exact GS.drew ‹_›)
    ((go_at_call 80;(with_reducible refine (HW.out _).mono ?_);rintro e w2 ⟨rfl,hb⟩;have S2:=(GS.drew S0).later hb))
   obtain ⟨g1,g2,g3,F⟩:=S2
   clear S0 hb
   go_wp2_with fail
   go_quiet (fail)
   go_wp2_with fail
   rw [← H3.out]
   have S0:GS w w.heap.size w.heap.size l d c (w2.drewN nq):=⟨g1,g2,g3,F.trans (belowN _ _ _)⟩
   have t2:ch.tmod wd=ch % wd:=Int.tmod_eq_emod_of_nonneg hch.1
   clear g1 g2 g3 F
   generalize w2.drewN nq=w4 at S0 ⊢
   clear H3
   go_region_held3 (GS w w.heap.size w.heap.size l d c)
    (first | assumption | exact GS.drew ‹_›)
    ((go_at_call 81;(with_reducible refine (HK.out _).mono ?_);rintro e w3 ⟨rfl,hb⟩;have S3:=(GS.drew S0).later hb))
   go_wp2
   go_ret3
   exact ⟨by rw [H.out,H1.out,H2.out];rfl,S3.2.2.2⟩
end Go.Proofs.YtenkkdnepmoihaaGreatDoor
end
section
set_option linter.unusedVariables false
set_option linter.unusedSimpArgs false
namespace Go.Proofs.YtenkkdnepmoihaaGreatDoor
open Go.RowKit
def plNumsTo (l d c r:Int) (n k:Nat):List Int:=(List.range k).map (fun j:Nat=>plN l d c r (j:Int)) ++ List.replicate (n - k) 0
theorem plNumsTo_len (l d c r:Int) {n k:Nat} (h:k ≤ n):(plNumsTo l d c r n k).length=n:=by simp [plNumsTo];omega
theorem plNumsTo_zero (l d c r:Int) (n:Nat):plNumsTo l d c r n 0=List.replicate n 0:=by simp [plNumsTo]
theorem plNumsTo_succ (l d c r:Int) {n k:Nat} (h:k < n):(plNumsTo l d c r n k).set k (plN l d c r (k:Int))=plNumsTo l d c r n (k + 1):=by
 unfold plNumsTo
 rw [List.set_append_right _ _ (by simp),show n - k=(n - (k + 1)) + 1 by omega,List.replicate_succ,List.length_map,List.length_range,Nat.sub_self,List.set_cons_zero,List.range_succ,List.map_append,List.append_assoc]
 rfl
theorem plNumsTo_all {l d c r:Int} {n:Nat} (h:plOk l d c r=true) (hn:gWid l d c=n):plNumsTo l d c r n n=plNums l d c r:=by
 have hg:=(plOk_yes h).1
 rw [gWid_yes hg] at hn
 unfold plNums plNumsTo
 rw [if_pos h,hn]
 simp
theorem plNums_no {l d c r:Int} (h:plOk l d c r=false):plNums l d c r=[]:=if_neg (by rw [h];decide)
theorem plNums_len {l d c r:Int} (h:plOk l d c r=true):(plNums l d c r).length=(gWid l d c).toNat:=by
 have hg:=(plOk_yes h).1
 rw [gWid_yes hg]
 unfold plNums
 rw [if_pos h]
 simp
theorem plNums_get {l d c r:Int} (h:plOk l d c r=true) {k:Nat} (hk:(k:Int) < gWid l d c):(plNums l d c r).getD k 0=plN l d c r (k:Int):=by
 have hg:=(plOk_yes h).1
 rw [gWid_yes hg] at hk
 unfold plNums
 rw [if_pos h]
 have:k < (d - (l - 4)).toNat:=by omega
 simp [this]
theorem GS.set {w0 W:World} {B b:Nat} {l d c:Int} (h:GS w0 B b l d c W) {p:Addr} (hp:B ≤ p.block) (hne:p.block ≠ b) (u:Value):GS w0 B b l d c (W.setCell p u) :=
 ⟨(World.cell?_setCell_far _ _ _ _ hne).trans h.1,(World.cell?_setCell_far _ _ _ _ hne).trans h.2.1,(World.cell?_setCell_far _ _ _ _ hne).trans h.2.2.1,h.2.2.2.setCell hp u⟩
set_option maxHeartbeats 800000 in
theorem numbers_own (l d c r:Int) (w:World) (HT:Hid (plOk l d c r=true)) (hl:(-9223372036854775808 ≤ l∧l ≤ 9223372036854775807)) (hd:(-9223372036854775808 ≤ d∧d ≤ 9223372036854775807)) (hc:(-9223372036854775808 ≤ c∧c ≤ 9223372036854775807)) (hr:(-9223372036854775808 ≤ r∧r ≤ 9223372036854775807)) :
    Calls Tryz.prog 51 #[.agg #[.int .i64 l,.int .i64 d,.int .i64 c],.int .i64 r] w fun e w'=>∃ v,e=.returned v∧OwJ w' w.heap.size v (plNums l d c r)∧Below w.heap.size w w':=by
 have G:=gat_new w l d c 24 (0,0)
 obtain ⟨hg,h0,h1⟩:=plOk_yes HT.out
 have HW:=Lib.hid (fun W=>width_any l d c W hl hd hc)
 have hw:=gWid_bd l d c
 obtain ⟨n,hn⟩:∃ n:Nat,gWid l d c=n:=⟨(gWid l d c).toNat,by omega⟩
 have Hall:=Lib.hid (plNumsTo_all HT.out hn)
 have HN:Hid (∀ (k:Nat) W,k < n→Calls Tryz.prog 84 #[.agg #[.int .i64 l,.int .i64 d,.int .i64 c],.int .i64 r,.int .i64 (k:Int)] W fun e w'=>e=.returned (.int .i64 (plN l d c r (k:Int)))∧Below W.heap.size W w') :=
  Lib.hid (fun k W hk=>number_any l d c r (k:Int) W HT (by omega) hl hd hc hr)
 rw [hn] at HW hw
 have hn8:n ≤ 1000000:=by omega
 have km:=make_ints n hn8
 clear hn hg
 go_enter Tryz.func51,Tryz.ntmps51
 go_wp2_with fail
 (with_reducible refine (there_yes l d c r _ HT hl hd hc hr).mono ?_);rintro e w1 ⟨rfl,hb⟩
 have S1:=GS.later (w0:=w) (B:=w.heap.size) ⟨G.1,G.2.1,G.2.2,below1 w _⟩ hb
 clear hb G
 obtain ⟨g1,g2,g3,F⟩:=S1
 go_wp2_with fail
 (with_reducible refine (HW.out _).mono ?_);rintro e w2 ⟨rfl,hb⟩
 have S2:=GS.later (w0:=w) (B:=w.heap.size) ⟨g1,g2,g3,F⟩ hb
 clear hb g1 g2 g3 F
 have own0:=ownJ_make w2 n hn8
 have S3:=S2.later (below1 w2 (.cells (madeCells #[.int .i64 0] n) 3))
 have z2:=S2.2.2.2.size
 have b2:=World.block_lt_of_cell? _ _ S2.1
 clear S2
 rw [← plNumsTo_zero l d c r n] at own0
 go_wp2_with fail
 generalize w2.heap.size=g at own0 S3 z2 b2 ⊢
 generalize w2.alloc (.cells (madeCells #[.int .i64 0] n) 3)=w3 at own0 S3 ⊢
 go_loopw [16] (fun i wr=>∃ k:Nat,k ≤ n∧i=.int .i64 k∧OwJ wr g (.slice (some ⟨g,0,none⟩) n n) (plNumsTo l d c r n k)∧GS w w.heap.size w.heap.size l d c wr) (fun i _=>n - (intOf i).toNat)
 case atStart=>exact ⟨0,Nat.zero_le _,rfl,own0,S3⟩
 case round =>
  obtain ⟨k,hk,rfl,hown,hS⟩:=hrel
  by_cases hlt:k < n
  ·have i0:(0:Int) ≤ (k:Int):=by omega
   have i1:(k:Int) < (n:Int):=by omega
   obtain ⟨g1,g2,g3,F⟩:=hS
   go_wp2_with fail
   (with_reducible refine (HN.out k _ hlt).mono ?_);rintro e w4 ⟨rfl,hb⟩
   have S4:=GS.later (w0:=w) (B:=w.heap.size) ⟨g1,g2,g3,F⟩ hb
   have hown4:=hown.below hb
   obtain ⟨c4,f4⟩:=hown4.cellF (plNumsTo_len l d c r hk).symm k hlt
   have hown5:=hown4.set (plNumsTo_len l d c r hk).symm k (plN l d c r (k:Int))
   rw [plNumsTo_succ l d c r hlt] at hown5
   have S5:=S4.set (p:=⟨g,k,none⟩) (by show w.heap.size ≤ g;omega) (by show g ≠ w.heap.size;omega) (.int .i64 (plN l d c r (k:Int)))
   clear hb g1 g2 g3 F hown S4 hown4
   go_wp2
   go_roundw
   case rel=>exact ⟨k + 1,by omega,by go_num,hown5,S5⟩
   case measure=>simp [intOf];omega
  ·obtain rfl:k=n:=by omega
   rw [Hall.out] at hown
   go_wp2
   go_ret
   exact ⟨_,rfl,hown.le (by omega),hS.2.2.2⟩
theorem numbers_any (l d c r:Int) (w:World) (hl:(-9223372036854775808 ≤ l∧l ≤ 9223372036854775807)) (hd:(-9223372036854775808 ≤ d∧d ≤ 9223372036854775807)) (hc:(-9223372036854775808 ≤ c∧c ≤ 9223372036854775807)) (hr:(-9223372036854775808 ≤ r∧r ≤ 9223372036854775807)) :
    Calls Tryz.prog 51 #[.agg #[.int .i64 l,.int .i64 d,.int .i64 c],.int .i64 r] w fun e w'=>∃ A cp,e=.returned (.slice A (plNums l d c r).length cp)∧RdJ w' w'.heap.size A (plNums l d c r)∧Below w.heap.size w w':=by
 cases hT:plOk l d c r
 ·have H:=Lib.hid (plNums_no hT)
  have HT:=Lib.hid hT
  clear hT
  go_enter Tryz.func51,Tryz.ntmps51
  go_wp2_with fail
  (with_reducible refine (there_no l d c r _ HT hl hd hc hr).mono ?_);rintro e w1 ⟨rfl,hb⟩
  have F:=(below1 w _).trans (hb.mono (by simp))
  clear hb
  go_wp2_with fail
  go_ret
  exact ⟨none,0,by rw [H.out];rfl,by rw [H.out];exact RdJ.nil _ _ _,F⟩
 ·refine (numbers_own l d c r w (Lib.hid hT) hl hd hc hr).mono ?_
  rintro e w' ⟨v,rfl,ho,hb⟩
  have hw:=gWid_bd l d c
  obtain ⟨A,cp,rfl,hr⟩:=ho.rd (by rw [plNums_len hT];omega)
  exact ⟨A,cp,rfl,hr,hb⟩
end Go.Proofs.YtenkkdnepmoihaaGreatDoor
end
section
set_option linter.unusedVariables false
set_option linter.unusedSimpArgs false
namespace Go.Proofs.YtenkkdnepmoihaaGreatDoor
open Go.RowKit
end Go.Proofs.YtenkkdnepmoihaaGreatDoor
end
section
set_option maxRecDepth 20000
set_option linter.unusedVariables false
set_option linter.unusedSimpArgs false
namespace Go.Proofs.YtenkkdnepmoihaaGreatDoor
open Go.RowKit
section
variable {w w':World} {B n:Nat} {F:Int→Option Value}
end
end Go.Proofs.YtenkkdnepmoihaaGreatDoor
end
