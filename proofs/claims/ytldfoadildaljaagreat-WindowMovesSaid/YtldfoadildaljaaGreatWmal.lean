/- Texts put together: RowLose, RecFind, RecSame, OwnItP, RecChk, RecFld, RecHead, ItSet, PlanSpan, RefPlan, PlanKit, RefPlanSpan. -/
import Derived.Test.YtldfoadildaljaaGreatWmaj
import Derived.Test.YtldfoadildaljaaGreatWmah
import Derived.Test.YtldfoadildaljaaGreatWmaa
import Derived.Test.YtldfoadildaljaaGreatWmad
import Derived.Test.YtldfoadildaljaaGreatWmaf
import Derived.Test.YtldfoadildaljaaGreatWmag
import Derived.Laws.OwnMore
import Derived.Test.YtldfoadildaljaaGreatWmai
import Derived.Test.YtldfoadildaljaaGreatWmab
section
set_option linter.unusedVariables false
set_option linter.unusedSimpArgs false
namespace Go.Proofs.YtldfoadildaljaaGreat
def emptyB (xs:List (List UInt8)) (i:Nat):Bool:=(xs.getD i []).length == 0
theorem missB_cnt (rs:List (List UInt8)):(missB rs).length=cntB rs.length (emptyB rs):=rfl
theorem missB_pair (p q:List UInt8):(missB [p,q]).length=(if p.length=0 then 1 else 0) + (if q.length=0 then 1 else 0):=by
 rw [missB_two,List.length_append]
 split <;> split <;> rfl
theorem data_cnt {l d c r:Int} (xs:List (List UInt8)):(missB (dataL l d c r xs)).length=cntB (roW l d) fun k=>emptyB xs (roS (roD d) (roF l d c r) k):=by
 rw [missB_cnt,dataL_len]
 exact cntB_congr fun k hk=>by unfold emptyB;rw [dataL_get hk]
theorem all_cnt {l d c r:Int} (R:Ro l d c r) (xs:List (List UInt8)) :
    cntB (roD d) (emptyB xs)=(missB (dataL l d c r xs)).length + (if (parL l d c r xs).length=0 then 1 else 0) + (if l=6∧(parQ l d c r xs).length=0 then 1 else 0):=by
 rw [cntB_roS R.hF,data_cnt]
 rcases R.lv with ⟨h5,hD⟩ | ⟨h6,hD⟩
 ·rw [if_neg (by omega:¬ (l=6∧_))]
  unfold parL
  generalize roF l d c r=F
  rw [hD,cntB_succ]
  unfold emptyB
  by_cases h:(xs.getD (roS (roW l d + 1) F (roW l d)) []).length=0
  ·rw [if_pos (by simpa using h),if_pos h];all_goals omega
  ·rw [if_neg (by simpa using h),if_neg h];all_goals omega
 ·unfold parL parQ
  rw [if_pos h6]
  generalize roF l d c r=F
  rw [hD,cntB_succ,cntB_succ]
  unfold emptyB
  by_cases h:(xs.getD (roS (roW l d + 2) F (roW l d)) []).length=0
  ·by_cases h2:(xs.getD (roS (roW l d + 2) F (roW l d + 1)) []).length=0
   ·rw [if_pos (by simpa using h2),if_pos (by simpa using h),if_pos h,if_pos ⟨h6,h2⟩];all_goals omega
   ·rw [if_neg (by simpa using h2),if_pos (by simpa using h),if_pos h,if_neg fun e=>h2 e.2];all_goals omega
  ·by_cases h2:(xs.getD (roS (roW l d + 2) F (roW l d + 1)) []).length=0
   ·rw [if_pos (by simpa using h2),if_neg (by simpa using h),if_neg h,if_pos ⟨h6,h2⟩];all_goals omega
   ·rw [if_neg (by simpa using h2),if_neg (by simpa using h),if_neg h,if_neg fun e=>h2 e.2];all_goals omega
theorem lose_ok {l d c r:Int} {rs xs:List (List UInt8)} (h:fillOk l d c r rs=true) (hl:xs.length=roD d) (hx:∀ i,i < roD d→(xs.getD i []).length=0∨xs.getD i []=(fillL (roD d) (roF l d c r) rs).getD i [])
    (hc:((cntB (roD d) (emptyB xs):Nat):Int) ≤ l - 4):roTake l d c r xs=some rs:=by
 have R:=ro_of (fillOk_yes h).1
 refine take_back h hl hx ?_
 have hc2:=all_cnt R xs
 rw [missB_pair]
 have hlv:=R.lv
 by_cases h6:l=6
 ·split at hc2 <;> split at hc2 <;> split <;> split <;> omega
 ·have h5:l=5:=by omega
  have hq:(parQ l d c r xs).length=0:=by unfold parQ;rw [if_neg h6];rfl
  rw [if_pos hq]
  rw [if_neg (show ¬ (l=6∧(parQ l d c r xs).length=0) from fun e=>h6 e.1)] at hc2
  split at hc2 <;> split <;> omega
theorem cntB_one_le (n k:Nat):cntB n (fun i=>decide (i=k)) ≤ 1:=by
 by_cases h:k < n
 ·rw [cntB_one h];exact Nat.le_refl _
 ·rw [cntB_none fun i hi=>by simp;omega];omega
end Go.Proofs.YtldfoadildaljaaGreat
end
section
set_option maxRecDepth 8000
set_option linter.unusedVariables false
set_option linter.unusedSimpArgs false
namespace Go.Proofs.YtldfoadildaljaaGreat
open Go.RowKit
end Go.Proofs.YtldfoadildaljaaGreat
end
section
set_option maxRecDepth 8000
set_option linter.unusedVariables false
set_option linter.unusedSimpArgs false
namespace Go.Proofs.YtldfoadildaljaaGreat
open Go.RowKit
instance itDec:DecidableEq It:=fun x y=>decidable_of_iff (x.d=y.d∧x.a=y.a∧x.b=y.b) ⟨fun h=>It.ext' h.1 h.2.1 h.2.2,fun h=>by subst h;exact ⟨rfl,rfl,rfl⟩⟩
end Go.Proofs.YtldfoadildaljaaGreat
end
section
set_option linter.unusedVariables false
set_option linter.unusedSimpArgs false
namespace Go.Proofs.YtldfoadildaljaaGreat
open Go.RowKit
section
variable {w w':World} {P:Nat→Prop} {ob ob':Option Nat} {xs ys:List Value} {rs qs:List (List UInt8)}
end
def RdIF (w:World) (F:Nat→Prop) (A:Option Addr) (l:List It):Prop :=
 l.length ≤ 1000000∧(0 < l.length→∃ b,A=some ⟨b,0,none⟩∧b < w.heap.size∧¬ F b∧∀ k,k < l.length→∃ D c,w.rangeAt b (k * 3) [.int .i64 (itN l k).d,.int .i64 (itN l k).a,.slice D (itN l k).b.length c]∧(itN l k).b.length ≤ c∧RdB w w.heap.size D (itN l k).b∧(0 < (itN l k).b.length→∀ a,D=some a→¬ F a.block))
section
variable {e:TypeId} {w w':World} {B:Nat} {P F:Nat→Prop} {v:Value} {l:List It} {A:Option Addr}
end
section
variable {P:Program} (w:World) (Pp:Nat→Prop)
end
end Go.Proofs.YtldfoadildaljaaGreat
end
section
set_option maxRecDepth 8000
set_option linter.unusedVariables false
set_option linter.unusedSimpArgs false
namespace Go.Proofs.YtldfoadildaljaaGreat
open Go.RowKit
end Go.Proofs.YtldfoadildaljaaGreat
end
section
set_option maxRecDepth 8000
set_option linter.unusedVariables false
set_option linter.unusedSimpArgs false
namespace Go.Proofs.YtldfoadildaljaaGreat
open Go.RowKit
section
variable {w V V':World} {y y':Int} {v v':Value} {l l':List It}
end
end Go.Proofs.YtldfoadildaljaaGreat
end
section
set_option maxRecDepth 8000
set_option linter.unusedVariables false
set_option linter.unusedSimpArgs false
namespace Go.Proofs.YtldfoadildaljaaGreat
open Go.RowKit
end Go.Proofs.YtldfoadildaljaaGreat
end
section
set_option linter.unusedVariables false
set_option linter.unusedSimpArgs false
namespace Go.Proofs.YtldfoadildaljaaGreat
open Go.RowKit
section
variable {e:TypeId} {w:World} {B lo g n cap:Nat} {l:List It}
end
end Go.Proofs.YtldfoadildaljaaGreat
end
section
set_option maxRecDepth 20000
set_option linter.unusedVariables false
set_option linter.unusedSimpArgs false
namespace Go.Proofs.YtldfoadildaljaaGreat
open Go.RowKit
set_option maxHeartbeats 1600000 in
theorem planSpan_any (l d c l' d' c' k:Int) (w:World) (hl:(-9223372036854775808 ≤ l∧l ≤ 9223372036854775807)) (hd:(-9223372036854775808 ≤ d∧d ≤ 9223372036854775807)) (hc:(-9223372036854775808 ≤ c∧c ≤ 9223372036854775807)) (hl':(-9223372036854775808 ≤ l'∧l' ≤ 9223372036854775807)) (hd':(-9223372036854775808 ≤ d'∧d' ≤ 9223372036854775807)) (hc':(-9223372036854775808 ≤ c'∧c' ≤ 9223372036854775807)) (hk:(-9223372036854775808 ≤ k∧k ≤ 9223372036854775807)) :
    Calls Tryz.prog 31 #[.agg #[.int .i64 l,.int .i64 d,.int .i64 c],.agg #[.int .i64 l',.int .i64 d',.int .i64 c'],.int .i64 k] w fun e w'=>e=.returned (.tuple #[.int .i64 (pnF l d c l' d' c' k),.int .i64 (pnT l d c l' d' c' k)])∧Below w.heap.size w w':=by
 have S0:=gs2_start w l d c l' d' c' 25 25 (0,0) (0,0)
 have HW:Hid (∀ W,Calls Tryz.prog 58 #[.agg #[.int .i64 l,.int .i64 d,.int .i64 c],.agg #[.int .i64 l',.int .i64 d',.int .i64 c']] W fun e w'=>e=.returned (.int .i64 (pnW l d c l' d' c'))∧Below W.heap.size W w'):=Lib.hid fun W=>planWindows_any l d c l' d' c' W hl hd hc hl' hd' hc'
 have HS:Hid (∀ W,Calls Tryz.prog 59 #[.agg #[.int .i64 l,.int .i64 d,.int .i64 c],.agg #[.int .i64 l',.int .i64 d',.int .i64 c']] W fun e w'=>e=.returned (.int .i64 (pnN l d c l' d' c'))∧Below W.heap.size W w'):=Lib.hid fun W=>planSize_any l d c l' d' c' W hl hd hc hl' hd' hc'
 have HF:Hid (pnF l d c l' d' c' k=if decide (0 ≤ k∧k < pnW l d c l' d' c')=true then k * pnN l d c l' d' c' else 0):=rfl
 have HT:Hid (pnT l d c l' d' c' k=if decide (0 ≤ k∧k < pnW l d c l' d' c')=true then (k + 1) * pnN l d c l' d' c' else 0):=rfl
 have b1:=pnW_bd l d c l' d' c'
 have b3:=pnN_bd l d c l' d' c'
 generalize pnF l d c l' d' c' k=F0 at HF ⊢
 generalize pnT l d c l' d' c' k=T0 at HT ⊢
 generalize pnW l d c l' d' c'=Wn at HW HF HT b1
 generalize pnN l d c l' d' c'=N at HS HF HT b3
 clear hl hd hc hl' hd' hc'
 by_cases h0:k < 0
 ·have q0:decide (k < 0)=true:=decide_eq_true h0
  have HF2:=Lib.hid (HF.out.trans (if_neg (by rw [decide_eq_true_iff];omega)))
  have HT2:=Lib.hid (HT.out.trans (if_neg (by rw [decide_eq_true_iff];omega)))
  go_enter Tryz.func31,Tryz.ntmps31
  go_wp2_with fail
  go_ret2
  exact ⟨by rw [HF2.out,HT2.out];rfl,below2 _ _ _⟩
 ·have q0:decide (k < 0)=false:=decide_eq_false h0
  by_cases h1:Wn ≤ k
  ·have q1:decide (Wn ≤ k)=true:=decide_eq_true h1
   have HF2:=Lib.hid (HF.out.trans (if_neg (by rw [decide_eq_true_iff];omega)))
   have HT2:=Lib.hid (HT.out.trans (if_neg (by rw [decide_eq_true_iff];omega)))
   go_enter Tryz.func31,Tryz.ntmps31
   go_wp2_with fail
   (with_reducible refine (HW.out _).mono ?_);rintro e w1 ⟨rfl,hb⟩
   have S1:=S0.later hb
   clear hb S0
   go_wp2_with fail
   go_ret2
   exact ⟨by rw [HF2.out,HT2.out];rfl,S1.2.2.2.2.2.2⟩
  ·have q1:decide (Wn ≤ k)=false:=decide_eq_false h1
   have HF2:=Lib.hid (HF.out.trans (if_pos (by rw [decide_eq_true_iff];omega)))
   have HT2:=Lib.hid (HT.out.trans (if_pos (by rw [decide_eq_true_iff];omega)))
   have m0:=mul_bd28 (k:=k) (n:=N) (by omega) (by omega) b3.1 b3.2
   have m1:=mul_bd28 (k:=k + 1) (n:=N) (by omega) (by omega) b3.1 b3.2
   have i0:IntKind.i64.wrap (k * N)=k * N:=IntWalk.i64_in _ (by omega)
   have i1:IntKind.i64.wrap ((k + 1) * N)=(k + 1) * N:=IntWalk.i64_in _ (by omega)
   have i2:IntKind.i64.wrap (k + 1)=k + 1:=IntWalk.i64_in _ (by omega)
   go_enter Tryz.func31,Tryz.ntmps31
   go_wp2_with fail
   (with_reducible refine (HW.out _).mono ?_);rintro e w1 ⟨rfl,hb⟩
   have S1:=S0.later hb
   clear hb S0
   obtain ⟨g1,g2,g3,g4,g5,g6,F⟩:=S1
   go_wp2_with fail
   have S1:GS2 w w.heap.size w.heap.size (w.heap.size + 1) l d c l' d' c' w1:=⟨g1,g2,g3,g4,g5,g6,F⟩
   clear g1 g2 g3 g4 g5 g6 F
   go_region_held3 (GS2 w w.heap.size w.heap.size (w.heap.size + 1) l d c l' d' c')
    (first | assumption | exact GS2.drew ‹_›)
    ((go_at_call 59;(with_reducible refine (HS.out _).mono ?_);rintro e wA ⟨rfl,hbA⟩;have SA:GS2 w w.heap.size w.heap.size (w.heap.size + 1) l d c l' d' c' wA:=GS2.later (by first | assumption | exact GS2.drew ‹_›) hbA;clear hbA))
   all_goals
    go_wp2
    go_ret2
    exact ⟨by rw [HF2.out,HT2.out];rfl,SA.2.2.2.2.2.2⟩
end Go.Proofs.YtldfoadildaljaaGreat
end
section
set_option maxRecDepth 20000
set_option linter.unusedVariables false
set_option linter.unusedSimpArgs false
namespace Go.Proofs.YtldfoadildaljaaGreat
open Go.RowKit
set_option maxHeartbeats 800000 in
theorem refLeast_11 (w:World):Calls Tryz.prog 57 #[.int .i64 1,.int .i64 1] w fun e w'=>e=.returned (.int .i64 1)∧w'=w:=by
 go_enter Tryz.func57,Tryz.ntmps57
 go_wp2
 go_loopw [5] (fun v wr=>∃ n:Int,v=.int .i64 n∧(n=1)∧wr=w) (fun v _=>(5 - intOf v).toNat)
 case atStart=>exact ⟨_,rfl,by omega,rfl⟩
 case round =>
  obtain ⟨n,rfl,hn,rfl⟩:=hrel
  subst hn
  go_wp2
  go_ret
  exact ⟨rfl,rfl⟩
set_option maxHeartbeats 800000 in
theorem refLeast_12 (w:World):Calls Tryz.prog 57 #[.int .i64 1,.int .i64 2] w fun e w'=>e=.returned (.int .i64 2)∧w'=w:=by
 go_enter Tryz.func57,Tryz.ntmps57
 go_wp2
 go_loopw [5] (fun v wr=>∃ n:Int,v=.int .i64 n∧(n=1∨n=2)∧wr=w) (fun v _=>(5 - intOf v).toNat)
 case atStart=>exact ⟨_,rfl,by omega,rfl⟩
 case round =>
  obtain ⟨n,rfl,hn,rfl⟩:=hrel
  rcases hn with rfl | rfl
  ·go_wp2
   go_roundw
   case rel=>exact ⟨_,rfl,by omega,by first | rfl | trivial⟩
   case measure=>simp [intOf]
  ·go_wp2
   go_ret
   exact ⟨rfl,rfl⟩
set_option maxHeartbeats 800000 in
theorem refLeast_14 (w:World):Calls Tryz.prog 57 #[.int .i64 1,.int .i64 4] w fun e w'=>e=.returned (.int .i64 4)∧w'=w:=by
 go_enter Tryz.func57,Tryz.ntmps57
 go_wp2
 go_loopw [5] (fun v wr=>∃ n:Int,v=.int .i64 n∧(n=1∨n=2∨n=3∨n=4)∧wr=w) (fun v _=>(5 - intOf v).toNat)
 case atStart=>exact ⟨_,rfl,by omega,rfl⟩
 case round =>
  obtain ⟨n,rfl,hn,rfl⟩:=hrel
  rcases hn with rfl | rfl | rfl | rfl
  ·go_wp2
   go_roundw
   case rel=>exact ⟨_,rfl,by omega,by first | rfl | trivial⟩
   case measure=>simp [intOf]
  ·go_wp2
   go_roundw
   case rel=>exact ⟨_,rfl,by omega,by first | rfl | trivial⟩
   case measure=>simp [intOf]
  ·go_wp2
   go_roundw
   case rel=>exact ⟨_,rfl,by omega,by first | rfl | trivial⟩
   case measure=>simp [intOf]
  ·go_wp2
   go_ret
   exact ⟨rfl,rfl⟩
set_option maxHeartbeats 800000 in
theorem refLeast_21 (w:World):Calls Tryz.prog 57 #[.int .i64 2,.int .i64 1] w fun e w'=>e=.returned (.int .i64 2)∧w'=w:=by
 go_enter Tryz.func57,Tryz.ntmps57
 go_wp2
 go_loopw [5] (fun v wr=>∃ n:Int,v=.int .i64 n∧(n=2)∧wr=w) (fun v _=>(5 - intOf v).toNat)
 case atStart=>exact ⟨_,rfl,by omega,rfl⟩
 case round =>
  obtain ⟨n,rfl,hn,rfl⟩:=hrel
  subst hn
  go_wp2
  go_ret
  exact ⟨rfl,rfl⟩
set_option maxHeartbeats 800000 in
theorem refLeast_22 (w:World):Calls Tryz.prog 57 #[.int .i64 2,.int .i64 2] w fun e w'=>e=.returned (.int .i64 2)∧w'=w:=by
 go_enter Tryz.func57,Tryz.ntmps57
 go_wp2
 go_loopw [5] (fun v wr=>∃ n:Int,v=.int .i64 n∧(n=2)∧wr=w) (fun v _=>(5 - intOf v).toNat)
 case atStart=>exact ⟨_,rfl,by omega,rfl⟩
 case round =>
  obtain ⟨n,rfl,hn,rfl⟩:=hrel
  subst hn
  go_wp2
  go_ret
  exact ⟨rfl,rfl⟩
set_option maxHeartbeats 800000 in
theorem refLeast_24 (w:World):Calls Tryz.prog 57 #[.int .i64 2,.int .i64 4] w fun e w'=>e=.returned (.int .i64 4)∧w'=w:=by
 go_enter Tryz.func57,Tryz.ntmps57
 go_wp2
 go_loopw [5] (fun v wr=>∃ n:Int,v=.int .i64 n∧(n=2∨n=4)∧wr=w) (fun v _=>(5 - intOf v).toNat)
 case atStart=>exact ⟨_,rfl,by omega,rfl⟩
 case round =>
  obtain ⟨n,rfl,hn,rfl⟩:=hrel
  rcases hn with rfl | rfl
  ·go_wp2
   go_roundw
   case rel=>exact ⟨_,rfl,by omega,by first | rfl | trivial⟩
   case measure=>simp [intOf]
  ·go_wp2
   go_ret
   exact ⟨rfl,rfl⟩
set_option maxHeartbeats 800000 in
theorem refLeast_41 (w:World):Calls Tryz.prog 57 #[.int .i64 4,.int .i64 1] w fun e w'=>e=.returned (.int .i64 4)∧w'=w:=by
 go_enter Tryz.func57,Tryz.ntmps57
 go_wp2
 go_loopw [5] (fun v wr=>∃ n:Int,v=.int .i64 n∧(n=4)∧wr=w) (fun v _=>(5 - intOf v).toNat)
 case atStart=>exact ⟨_,rfl,by omega,rfl⟩
 case round =>
  obtain ⟨n,rfl,hn,rfl⟩:=hrel
  subst hn
  go_wp2
  go_ret
  exact ⟨rfl,rfl⟩
set_option maxHeartbeats 800000 in
theorem refLeast_42 (w:World):Calls Tryz.prog 57 #[.int .i64 4,.int .i64 2] w fun e w'=>e=.returned (.int .i64 4)∧w'=w:=by
 go_enter Tryz.func57,Tryz.ntmps57
 go_wp2
 go_loopw [5] (fun v wr=>∃ n:Int,v=.int .i64 n∧(n=4)∧wr=w) (fun v _=>(5 - intOf v).toNat)
 case atStart=>exact ⟨_,rfl,by omega,rfl⟩
 case round =>
  obtain ⟨n,rfl,hn,rfl⟩:=hrel
  subst hn
  go_wp2
  go_ret
  exact ⟨rfl,rfl⟩
set_option maxHeartbeats 800000 in
theorem refLeast_44 (w:World):Calls Tryz.prog 57 #[.int .i64 4,.int .i64 4] w fun e w'=>e=.returned (.int .i64 4)∧w'=w:=by
 go_enter Tryz.func57,Tryz.ntmps57
 go_wp2
 go_loopw [5] (fun v wr=>∃ n:Int,v=.int .i64 n∧(n=4)∧wr=w) (fun v _=>(5 - intOf v).toNat)
 case atStart=>exact ⟨_,rfl,by omega,rfl⟩
 case round =>
  obtain ⟨n,rfl,hn,rfl⟩:=hrel
  subst hn
  go_wp2
  go_ret
  exact ⟨rfl,rfl⟩
theorem refLeast_any (c c':Int) (w:World) (hc:c=1∨c=2∨c=4) (hc':c'=1∨c'=2∨c'=4) :
    Calls Tryz.prog 57 #[.int .i64 c,.int .i64 c'] w fun e w'=>e=.returned (.int .i64 (if c < c' then c' else c))∧w'=w:=by
 rcases hc with rfl | rfl | rfl <;> rcases hc' with rfl | rfl | rfl
 ·exact refLeast_11 w
 ·exact refLeast_12 w
 ·exact refLeast_14 w
 ·exact refLeast_21 w
 ·exact refLeast_22 w
 ·exact refLeast_24 w
 ·exact refLeast_41 w
 ·exact refLeast_42 w
 ·exact refLeast_44 w
theorem refCan_gc (l d c l' d' c':Int) (w:World) (hl:(-9223372036854775808 ≤ l∧l ≤ 9223372036854775807)) (hd:(-9223372036854775808 ≤ d∧d ≤ 9223372036854775807)) (hc:(-9223372036854775808 ≤ c∧c ≤ 9223372036854775807)) (hl':(-9223372036854775808 ≤ l'∧l' ≤ 9223372036854775807)) (hd':(-9223372036854775808 ≤ d'∧d' ≤ 9223372036854775807)) (hc':(-9223372036854775808 ≤ c'∧c' ≤ 9223372036854775807)) :
    Calls Tryz.prog 25 #[.agg #[.int .i64 l,.int .i64 d,.int .i64 c],.agg #[.int .i64 l',.int .i64 d',.int .i64 c']] w fun e w'=>e=.returned (.bool (gCan l d c l' d' c'))∧Below w.heap.size w w':=refCan_any l d c l' d' c' w hl hd hc hl' hd' hc'
set_option maxHeartbeats 800000 in
theorem refRows_any (l d c l' d' c':Int) (w:World) (hl:(-9223372036854775808 ≤ l∧l ≤ 9223372036854775807)) (hd:(-9223372036854775808 ≤ d∧d ≤ 9223372036854775807)) (hc:(-9223372036854775808 ≤ c∧c ≤ 9223372036854775807)) (hl':(-9223372036854775808 ≤ l'∧l' ≤ 9223372036854775807)) (hd':(-9223372036854775808 ≤ d'∧d' ≤ 9223372036854775807)) (hc':(-9223372036854775808 ≤ c'∧c' ≤ 9223372036854775807)) :
    Calls Tryz.prog 30 #[.agg #[.int .i64 l,.int .i64 d,.int .i64 c],.agg #[.int .i64 l',.int .i64 d',.int .i64 c']] w fun e w'=>e=.returned (.int .i64 (pnR l d c l' d' c'))∧Below w.heap.size w w':=by
 have S0:=gs2_start w l d c l' d' c' 25 25 (0,0) (0,0)
 have HC:Hid (∀ W,Calls Tryz.prog 25 #[.agg #[.int .i64 l,.int .i64 d,.int .i64 c],.agg #[.int .i64 l',.int .i64 d',.int .i64 c']] W fun e w'=>e=.returned (.bool (gCan l d c l' d' c'))∧Below W.heap.size W w'):=Lib.hid fun W=>refCan_gc l d c l' d' c' W hl hd hc hl' hd' hc'
 cases hC:gCan l d c l' d' c'
 ·have H:=Lib.hid (pnR_no hC)
  rw [hC] at HC
  clear hC
  go_enter Tryz.func30,Tryz.ntmps30
  go_wp2_with fail
  (with_reducible refine (HC.out _).mono ?_);rintro e w1 ⟨rfl,hb⟩
  have S1:=S0.later hb
  clear hb S0
  go_wp2_with fail
  go_ret
  exact ⟨by rw [H.out];rfl,S1.2.2.2.2.2.2⟩
 ·have H:=Lib.hid (pnR_yes hC)
  have k1:=(gOk_yes (gCan_parts hC).1).2.2
  have k2:=(gOk_yes (gCan_parts hC).2.1).2.2
  have HL:=Lib.hid (fun W=>refLeast_any c c' W k1 k2)
  rw [← H.out] at HL
  rw [hC] at HC
  clear hC H k1 k2
  generalize pnR l d c l' d' c'=R at HL ⊢
  go_enter Tryz.func30,Tryz.ntmps30
  go_wp2_with fail
  (with_reducible refine (HC.out _).mono ?_);rintro e w1 ⟨rfl,hb⟩
  have S1:=S0.later hb
  clear hb S0
  obtain ⟨g1,g2,g3,g4,g5,g6,F⟩:=S1
  go_wp2_with fail
  (with_reducible refine (HL.out _).mono ?_);rintro e w2 ⟨rfl,rfl⟩
  go_wp2_with fail
  go_ret
  exact ⟨rfl,F⟩
set_option maxHeartbeats 800000 in
theorem refWindows_any (l d c l' d' c':Int) (w:World) (hl:(-9223372036854775808 ≤ l∧l ≤ 9223372036854775807)) (hd:(-9223372036854775808 ≤ d∧d ≤ 9223372036854775807)) (hc:(-9223372036854775808 ≤ c∧c ≤ 9223372036854775807)) (hl':(-9223372036854775808 ≤ l'∧l' ≤ 9223372036854775807)) (hd':(-9223372036854775808 ≤ d'∧d' ≤ 9223372036854775807)) (hc':(-9223372036854775808 ≤ c'∧c' ≤ 9223372036854775807)) :
    Calls Tryz.prog 9 #[.agg #[.int .i64 l,.int .i64 d,.int .i64 c],.agg #[.int .i64 l',.int .i64 d',.int .i64 c']] w fun e w'=>e=.returned (.int .i64 (pnW l d c l' d' c'))∧Below w.heap.size w w':=by
 have S0:=gs2_start w l d c l' d' c' 25 25 (0,0) (0,0)
 have HC:Hid (∀ W,Calls Tryz.prog 25 #[.agg #[.int .i64 l,.int .i64 d,.int .i64 c],.agg #[.int .i64 l',.int .i64 d',.int .i64 c']] W fun e w'=>e=.returned (.bool (gCan l d c l' d' c'))∧Below W.heap.size W w'):=Lib.hid fun W=>refCan_gc l d c l' d' c' W hl hd hc hl' hd' hc'
 have HR:Hid (∀ W,Calls Tryz.prog 30 #[.agg #[.int .i64 l,.int .i64 d,.int .i64 c],.agg #[.int .i64 l',.int .i64 d',.int .i64 c']] W fun e w'=>e=.returned (.int .i64 (pnR l d c l' d' c'))∧Below W.heap.size W w'):=Lib.hid fun W=>refRows_any l d c l' d' c' W hl hd hc hl' hd' hc'
 cases hC:gCan l d c l' d' c'
 ·have H:=Lib.hid (pnW_no hC)
  rw [hC] at HC
  clear hC
  go_enter Tryz.func9,Tryz.ntmps9
  go_wp2_with fail
  (with_reducible refine (HC.out _).mono ?_);rintro e w1 ⟨rfl,hb⟩
  have S1:=S0.later hb
  clear hb S0
  go_wp2_with fail
  go_ret
  exact ⟨by rw [H.out];rfl,S1.2.2.2.2.2.2⟩
 ·obtain ⟨R,K,wd,wd',P⟩:=pn_of hC
  have H:=Lib.hid P.eK
  rw [P.eR] at HR
  rw [hC] at HC
  rcases P.rk with ⟨rfl,rfl⟩ | ⟨rfl,rfl⟩ | ⟨rfl,rfl⟩
  all_goals
   clear hC P
   go_enter Tryz.func9,Tryz.ntmps9
   go_wp2_with fail
   (with_reducible refine (HC.out _).mono ?_);rintro e w1 ⟨rfl,hb⟩
   have S1:=S0.later hb
   clear hb S0
   obtain ⟨g1,g2,g3,g4,g5,g6,F⟩:=S1
   go_wp2_with fail
   (with_reducible refine (HR.out _).mono ?_);rintro e w2 ⟨rfl,hb⟩
   have S2:=GS2.later ⟨g1,g2,g3,g4,g5,g6,F⟩ hb
   clear hb g1 g2 g3 g4 g5 g6 F
   go_wp2_with fail
   go_ret
   exact ⟨by rw [H.out];rfl,S2.2.2.2.2.2.2⟩
end Go.Proofs.YtldfoadildaljaaGreat
end
section
set_option maxRecDepth 20000
set_option linter.unusedVariables false
set_option linter.unusedSimpArgs false
namespace Go.Proofs.YtldfoadildaljaaGreat
open Go.RowKit
section
variable {l d c l' d' c' R K wa wb:Int}
end
end Go.Proofs.YtldfoadildaljaaGreat
end
section
set_option maxRecDepth 20000
set_option linter.unusedVariables false
set_option linter.unusedSimpArgs false
namespace Go.Proofs.YtldfoadildaljaaGreat
open Go.RowKit
set_option maxHeartbeats 1600000 in
theorem refSpan_any (l d c l' d' c' k:Int) (w:World) (hl:(-9223372036854775808 ≤ l∧l ≤ 9223372036854775807)) (hd:(-9223372036854775808 ≤ d∧d ≤ 9223372036854775807)) (hc:(-9223372036854775808 ≤ c∧c ≤ 9223372036854775807)) (hl':(-9223372036854775808 ≤ l'∧l' ≤ 9223372036854775807)) (hd':(-9223372036854775808 ≤ d'∧d' ≤ 9223372036854775807)) (hc':(-9223372036854775808 ≤ c'∧c' ≤ 9223372036854775807)) (hk:(-9223372036854775808 ≤ k∧k ≤ 9223372036854775807)) :
    Calls Tryz.prog 15 #[.agg #[.int .i64 l,.int .i64 d,.int .i64 c],.agg #[.int .i64 l',.int .i64 d',.int .i64 c'],.int .i64 k] w fun e w'=>e=.returned (.tuple #[.int .i64 (pnF l d c l' d' c' k),.int .i64 (pnT l d c l' d' c' k)])∧Below w.heap.size w w':=by
 have S0:=gs2_start w l d c l' d' c' 25 25 (0,0) (0,0)
 have HW:Hid (∀ W,Calls Tryz.prog 9 #[.agg #[.int .i64 l,.int .i64 d,.int .i64 c],.agg #[.int .i64 l',.int .i64 d',.int .i64 c']] W fun e w'=>e=.returned (.int .i64 (pnW l d c l' d' c'))∧Below W.heap.size W w'):=Lib.hid fun W=>refWindows_any l d c l' d' c' W hl hd hc hl' hd' hc'
 have HR:Hid (∀ W,Calls Tryz.prog 30 #[.agg #[.int .i64 l,.int .i64 d,.int .i64 c],.agg #[.int .i64 l',.int .i64 d',.int .i64 c']] W fun e w'=>e=.returned (.int .i64 (pnR l d c l' d' c'))∧Below W.heap.size W w'):=Lib.hid fun W=>refRows_any l d c l' d' c' W hl hd hc hl' hd' hc'
 have HV:Hid (∀ W,Calls Tryz.prog 28 #[.agg #[.int .i64 l',.int .i64 d',.int .i64 c']] W fun e w'=>e=.returned (.int .i64 (gWid l' d' c'))∧Below W.heap.size W w'):=Lib.hid fun W=>refWidth_any l' d' c' W hl' hd' hc'
 have HF:Hid (pnF l d c l' d' c' k=if decide (0 ≤ k∧k < pnW l d c l' d' c')=true then k * pnN l d c l' d' c' else 0):=rfl
 have HT:Hid (pnT l d c l' d' c' k=if decide (0 ≤ k∧k < pnW l d c l' d' c')=true then (k + 1) * pnN l d c l' d' c' else 0):=rfl
 have b1:=pnW_bd l d c l' d' c'
 have b3:=pnN_bd l d c l' d' c'
 have HN:Hid (pnN l d c l' d' c'=pnR l d c l' d' c' * gWid l' d' c'):=rfl
 have r1:=pnR_bd l d c l' d' c'
 have r2:=gWid_bd l' d' c'
 generalize pnR l d c l' d' c'=R at HR HN r1
 generalize gWid l' d' c'=wd at HV HN r2
 generalize pnF l d c l' d' c' k=F0 at HF ⊢
 generalize pnT l d c l' d' c' k=T0 at HT ⊢
 generalize pnW l d c l' d' c'=Wn at HW HF HT b1
 generalize pnN l d c l' d' c'=N at HN HF HT b3
 clear hl hd hc hl' hd' hc'
 by_cases h0:k < 0
 ·have q0:decide (k < 0)=true:=decide_eq_true h0
  have HF2:=Lib.hid (HF.out.trans (if_neg (by rw [decide_eq_true_iff];omega)))
  have HT2:=Lib.hid (HT.out.trans (if_neg (by rw [decide_eq_true_iff];omega)))
  go_enter Tryz.func15,Tryz.ntmps15
  go_wp2_with fail
  go_ret2
  exact ⟨by rw [HF2.out,HT2.out];rfl,below2 _ _ _⟩
 ·have q0:decide (k < 0)=false:=decide_eq_false h0
  by_cases h1:Wn ≤ k
  ·have q1:decide (Wn ≤ k)=true:=decide_eq_true h1
   have HF2:=Lib.hid (HF.out.trans (if_neg (by rw [decide_eq_true_iff];omega)))
   have HT2:=Lib.hid (HT.out.trans (if_neg (by rw [decide_eq_true_iff];omega)))
   go_enter Tryz.func15,Tryz.ntmps15
   go_wp2_with fail
   (with_reducible refine (HW.out _).mono ?_);rintro e w1 ⟨rfl,hb⟩
   have S1:=S0.later hb
   clear hb S0
   go_wp2_with fail
   go_ret2
   exact ⟨by rw [HF2.out,HT2.out];rfl,S1.2.2.2.2.2.2⟩
  ·have q1:decide (Wn ≤ k)=false:=decide_eq_false h1
   have HF2:=Lib.hid (HF.out.trans (if_pos (by rw [decide_eq_true_iff];omega)))
   have HT2:=Lib.hid (HT.out.trans (if_pos (by rw [decide_eq_true_iff];omega)))
   have m0:=mul_bd28 (k:=k) (n:=N) (by omega) (by omega) b3.1 b3.2
   have m1:=mul_bd28 (k:=k + 1) (n:=N) (by omega) (by omega) b3.1 b3.2
   have i0:IntKind.i64.wrap (k * N)=k * N:=IntWalk.i64_in _ (by omega)
   have i1:IntKind.i64.wrap ((k + 1) * N)=(k + 1) * N:=IntWalk.i64_in _ (by omega)
   have i2:IntKind.i64.wrap (k + 1)=k + 1:=IntWalk.i64_in _ (by omega)
   have i3:IntKind.i64.wrap (R * wd)=N:=(IntWalk.i64_in _ (by rw [← HN.out];omega)).trans HN.out.symm
   clear HN
   go_enter Tryz.func15,Tryz.ntmps15
   go_wp2_with fail
   (with_reducible refine (HW.out _).mono ?_);rintro e w1 ⟨rfl,hb⟩
   have S1:=S0.later hb
   clear hb S0
   obtain ⟨g1,g2,g3,g4,g5,g6,F⟩:=S1
   go_wp2_with fail
   have S1:GS2 w w.heap.size w.heap.size (w.heap.size + 1) l d c l' d' c' w1:=⟨g1,g2,g3,g4,g5,g6,F⟩
   clear g1 g2 g3 g4 g5 g6 F
   go_region_held3 (GS2 w w.heap.size w.heap.size (w.heap.size + 1) l d c l' d' c')
    (first | assumption | exact GS2.drew ‹_›)
    (first
     |(go_at_call 30;(with_reducible refine (HR.out _).mono ?_);rintro e wA ⟨rfl,hb0⟩;have SA:GS2 w w.heap.size w.heap.size (w.heap.size + 1) l d c l' d' c' wA:=GS2.later (by first | assumption | exact GS2.drew ‹_›) hb0;clear hb0)
     |(go_at_call 28;(with_reducible refine (HV.out _).mono ?_);rintro e wB ⟨rfl,hb1⟩;have SB:GS2 w w.heap.size w.heap.size (w.heap.size + 1) l d c l' d' c' wB:=GS2.later (by first | assumption | exact GS2.drew ‹_›) hb1;clear hb1))
   all_goals
    go_wp2
    go_ret2
    first
     | exact ⟨by rw [HF2.out,HT2.out];rfl,SA.2.2.2.2.2.2⟩
     | exact ⟨by rw [HF2.out,HT2.out];rfl,SB.2.2.2.2.2.2⟩
end Go.Proofs.YtldfoadildaljaaGreat
end
