/- Texts put together: RowMath, Dsk, DskOps, RowCount, KeepCut, SyndQ, Parts, SyndOwn, RefPow, RefSynd, PlaceOf, PlaceNums, RefOf, PlanMath, MapRow, RecBox, RecMay, OwnIt, Plan. -/
import Derived.Test.YtldfoadildaljaaGreatWmaf
import Derived.Test.YtldfoadildaljaaGreatWmac
import Derived.Test.YtldfoadildaljaaGreatWmaa
import Derived.StillTailTactics
import Derived.Great.FillDense
import Derived.Great.BuildSlice
import Derived.Deep.AppendLies
import Derived.Test.YtldfoadildaljaaGreatWmad
import Derived.Test.YtldfoadildaljaaGreatWmah
import Derived.Test.YtldfoadildaljaaGreatWmae
import Derived.Test.YtldfoadildaljaaGreatWmab
import Derived.Test.YtldfoadildaljaaGreatProg
import Derived.Deep.MidRow
import Derived.Laws.AppendOwnNone
import Derived.Maps.AppendAt
import Derived.Test.YtldfoadildaljaaGreatWmag
section
set_option linter.unusedVariables false
set_option linter.unusedSimpArgs false
namespace Go.Proofs.YtldfoadildaljaaGreat
def roS (D F k:Nat):Nat:=if F + k < D then F + k else F + k - D
def roI (D F i:Nat):Nat:=if F ≤ i then i - F else i + D - F
theorem roS_lt {D F k:Nat} (hF:F < D) (hk:k < D):roS D F k < D:=by unfold roS;split <;> omega
theorem roI_lt {D F i:Nat} (hF:F < D) (hi:i < D):roI D F i < D:=by unfold roI;split <;> omega
theorem roI_roS {D F k:Nat} (hF:F < D) (hk:k < D):roI D F (roS D F k)=k:=by unfold roI roS;split <;> split <;> omega
theorem roS_roI {D F i:Nat} (hF:F < D) (hi:i < D):roS D F (roI D F i)=i:=by unfold roI roS;split <;> split <;> omega
theorem roS_inj {D F j k:Nat} (hF:F < D) (hj:j < D) (hk:k < D) (h:roS D F j=roS D F k):j=k:=by
 rw [← roI_roS hF hj,h,roI_roS hF hk]
def allL (rs:List (List UInt8)):List (List UInt8):=rs ++ [pB rs,qB rs]
theorem allL_data {rs:List (List UInt8)} {k:Nat} (hk:k < rs.length):(allL rs).getD k []=rs.getD k []:=by
 simp [allL,List.getD_eq_getElem?_getD,List.getElem?_append_left hk]
theorem allL_p (rs:List (List UInt8)):(allL rs).getD rs.length []=pB rs:=by
 simp [allL,List.getD_eq_getElem?_getD,List.getElem?_append_right]
theorem allL_q (rs:List (List UInt8)):(allL rs).getD (rs.length + 1) []=qB rs:=by
 simp [allL,List.getD_eq_getElem?_getD,List.getElem?_append_right]
def fillTo2 (D F:Nat) (rs:List (List UInt8)) (k:Nat):List (List UInt8):=(List.range D).map fun i=>if roI D F i < k then (allL rs).getD (roI D F i) [] else []
def fillL (D F:Nat) (rs:List (List UInt8)):List (List UInt8):=fillTo2 D F rs D
theorem fillTo2_len (D F:Nat) (rs:List (List UInt8)) (k:Nat):(fillTo2 D F rs k).length=D:=by simp [fillTo2]
theorem fillL_len (D F:Nat) (rs:List (List UInt8)):(fillL D F rs).length=D:=fillTo2_len _ _ _ _
theorem fillTo2_get {D F:Nat} {rs:List (List UInt8)} {k i:Nat} (hi:i < D):(fillTo2 D F rs k).getD i []=if roI D F i < k then (allL rs).getD (roI D F i) [] else []:=by
 simp [fillTo2,List.getD_eq_getElem?_getD,hi]
theorem fillL_get {D F:Nat} {rs:List (List UInt8)} {i:Nat} (hF:F < D) (hi:i < D):(fillL D F rs).getD i []=(allL rs).getD (roI D F i) []:=by
 unfold fillL
 rw [fillTo2_get hi,if_pos (roI_lt hF hi)]
theorem fillL_at {D F:Nat} {rs:List (List UInt8)} {k:Nat} (hF:F < D) (hk:k < D):(fillL D F rs).getD (roS D F k) []=(allL rs).getD k []:=by
 rw [fillL_get hF (roS_lt hF hk),roI_roS hF hk]
theorem fillTo2_zero (D F:Nat) (rs:List (List UInt8)):fillTo2 D F rs 0=List.replicate D []:=by
 apply List.ext_getElem (by simp [fillTo2])
 intro i h1 h2
 simp [fillTo2]
theorem fillTo2_succ {D F:Nat} {rs:List (List UInt8)} {k:Nat} (hF:F < D) (hk:k < D):(fillTo2 D F rs k).set (roS D F k) ((allL rs).getD k [])=fillTo2 D F rs (k + 1):=by
 apply ext_getD (by rw [List.length_set,fillTo2_len,fillTo2_len])
 intro i hi
 rw [List.length_set,fillTo2_len] at hi
 rw [fillTo2_get hi]
 by_cases e:roS D F k=i
 ·subst e
  rw [getD_set_same (by rw [fillTo2_len];exact hi),roI_roS hF hk,if_pos (by omega)]
 ·rw [getD_set_other e,fillTo2_get hi]
  have hne:roI D F i ≠ k:=fun h=>e (by rw [← h];exact roS_roI hF hi)
  by_cases h:roI D F i < k
  ·rw [if_pos h,if_pos (by omega)]
  ·rw [if_neg h,if_neg (by omega)]
def roF (l d c r:Int):Nat:=(plF l d c r).toNat
def roD (d:Int):Nat:=d.toNat
def roW (l d:Int):Nat:=(d - (l - 4)).toNat
structure Ro (l d c r:Int):Prop where
 hF:roF l d c r < roD d
 hW:roW l d < roD d
 w1:1 ≤ roW l d
 w7:roW l d ≤ 7
 d8:roD d ≤ 8
 d3:3 ≤ roD d
 dd:((roD d:Nat):Int)=d
 wd:gWid l d c=((roW l d:Nat):Int)
 lv:(l=5∧roD d=roW l d + 1)∨(l=6∧roD d=roW l d + 2)
 pP:plP l d c r=((roS (roD d) (roF l d c r) (roW l d):Nat):Int)
 pQ:plQ l d c r=if l=6 then ((roS (roD d) (roF l d c r) (roW l d + 1):Nat):Int) else -1
 pD:∀ k:Nat,k < roW l d→plD l d c r (k:Int)=((roS (roD d) (roF l d c r) k:Nat):Int)
theorem emod_two {x d:Int} (h0:0 ≤ x) (h1:x < d + d):x % d=if x < d then x else x - d:=by
 split
 ·exact Int.emod_eq_of_lt h0 (by omega)
 ·have h:x=(x - d) + d:=by omega
  rw [h,Int.add_emod_right]
  rw [Int.emod_eq_of_lt (by omega) (by omega)]
  omega
theorem ro_of {l d c r:Int} (h:plOk l d c r=true):Ro l d c r:=by
 obtain ⟨hg,h0,h1⟩:=plOk_yes h
 have hb:=gOk_bd hg
 have hl:=(gOk_yes hg).1
 have hp:=plP_yes h
 have hm:=rem_bd (r / c) (show 1 ≤ d by omega)
 have hF:=plF_bd l c r (show 1 ≤ d by omega)
 have hFe:plF l d c r=(d - 1 - r / c % d + (l - 4)) % d:=rfl
 have hFe2:=emod_two (x:=d - 1 - r / c % d + (l - 4)) (d:=d) (by omega) (by omega)
 rw [hFe2] at hFe
 have e1:((roD d:Nat):Int)=d:=by unfold roD;omega
 have e2:((roF l d c r:Nat):Int)=plF l d c r:=by unfold roF;omega
 have e3:((roW l d:Nat):Int)=d - (l - 4):=by unfold roW;omega
 have hroS:∀ k:Nat,k < roD d→((roS (roD d) (roF l d c r) k:Nat):Int)=(plF l d c r + k) % d:=fun k hk=>by
  rw [emod_two (by omega) (by omega)]
  unfold roS
  split <;> split <;> omega
 refine ⟨by omega,by omega,by omega,by omega,by omega,by omega,e1,by rw [gWid_yes hg,e3],?_,?_,?_,?_⟩
 ·rcases hl with h | h
  ·exact .inl ⟨h.1,by omega⟩
  ·exact .inr ⟨h.1,by omega⟩
 ·rw [hp,hroS _ (by omega)]
  generalize r / c % d=q at hm hFe ⊢
  generalize plF l d c r=f at hF hFe ⊢
  clear hFe2 hroS
  rw [emod_two (by omega) (by omega)]
  split at hFe <;> split <;> omega
 ·by_cases h6:l=6
  ·rw [if_pos h6,hroS _ (by omega)]
   subst h6
   rw [plQ_6 h]
   generalize r / c % d=q at hm hFe ⊢
   generalize plF 6 d c r=f at hF hFe ⊢
   clear hFe2 hroS
   rw [emod_two (by omega) (by omega),emod_two (by omega) (by omega)]
   split at hFe <;> split <;> split <;> omega
  ·rw [if_neg h6]
   obtain rfl:l=5:=by omega
   exact plQ_5
 ·intro k hk
  rw [hroS k (by omega),plD_yes (plDok_mk h (by omega) (by omega))]
def fillOk (l d c r:Int) (rs:List (List UInt8)):Bool:=plOk l d c r && (decide (rs.length=roW l d) && rs.all fun x=>x.length == 32)
def roFill (l d c r:Int) (rs:List (List UInt8)):Option (List (List UInt8)):=if fillOk l d c r rs=true then some (fillL (roD d) (roF l d c r) rs) else none
def dataL (l d c r:Int) (xs:List (List UInt8)):List (List UInt8):=(List.range (roW l d)).map fun k=>xs.getD (roS (roD d) (roF l d c r) k) []
def parL (l d c r:Int) (xs:List (List UInt8)):List UInt8:=xs.getD (roS (roD d) (roF l d c r) (roW l d)) []
def parQ (l d c r:Int) (xs:List (List UInt8)):List UInt8:=if l=6 then xs.getD (roS (roD d) (roF l d c r) (roW l d + 1)) [] else []
def roTake (l d c r:Int) (xs:List (List UInt8)):Option (List (List UInt8)) :=
 if (plOk l d c r && decide (xs.length=roD d))=true then solveB 32 (parL l d c r xs) (parQ l d c r xs) (dataL l d c r xs) else none
theorem fillOk_yes {l d c r:Int} {rs:List (List UInt8)} (h:fillOk l d c r rs=true):plOk l d c r=true∧rs.length=roW l d∧∀ x ∈ rs,x.length=32:=by
 unfold fillOk at h
 simp only [Bool.and_eq_true,decide_eq_true_eq,List.all_eq_true,beq_iff_eq] at h
 exact ⟨h.1,h.2.1,h.2.2⟩
theorem fillOk_mk {l d c r:Int} {rs:List (List UInt8)} (h:plOk l d c r=true) (hl:rs.length=roW l d) (ha:∀ x ∈ rs,x.length=32):fillOk l d c r rs=true:=by
 unfold fillOk
 simp only [Bool.and_eq_true,decide_eq_true_eq,List.all_eq_true,beq_iff_eq]
 exact ⟨h,hl,ha⟩
theorem roFill_yes {l d c r:Int} {rs:List (List UInt8)} (h:fillOk l d c r rs=true):roFill l d c r rs=some (fillL (roD d) (roF l d c r) rs):=if_pos h
theorem roFill_no {l d c r:Int} {rs:List (List UInt8)} (h:¬ fillOk l d c r rs=true):roFill l d c r rs=none:=if_neg h
theorem dataL_len (l d c r:Int) (xs:List (List UInt8)):(dataL l d c r xs).length=roW l d:=by simp [dataL]
theorem dataL_get {l d c r:Int} {xs:List (List UInt8)} {k:Nat} (hk:k < roW l d):(dataL l d c r xs).getD k []=xs.getD (roS (roD d) (roF l d c r) k) []:=by
 simp [dataL,List.getD_eq_getElem?_getD,hk]
theorem roTake_yes {l d c r:Int} {xs:List (List UInt8)} (h:plOk l d c r=true) (hl:xs.length=roD d):roTake l d c r xs=solveB 32 (parL l d c r xs) (parQ l d c r xs) (dataL l d c r xs):=by
 unfold roTake;rw [h,decide_eq_true hl];rfl
theorem mem_getD {rs:List (List UInt8)} {N k:Nat} (h:∀ r ∈ rs,r.length=N) (hk:k < rs.length):(rs.getD k []).length=N:=h _ (by simp [hk])
theorem allL_32 {rs:List (List UInt8)} (h0:0 < rs.length) (h:∀ x ∈ rs,x.length=32) {k:Nat} (hk:k < rs.length + 2):((allL rs).getD k []).length=32:=by
 by_cases h1:k < rs.length
 ·rw [allL_data h1];exact mem_getD h h1
 ·by_cases h2:k=rs.length
  ·subst h2;rw [allL_p];exact pB_len h0 h
  ·obtain rfl:k=rs.length + 1:=by omega
   rw [allL_q];exact qB_len h0 h
theorem take_back {l d c r:Int} {rs xs:List (List UInt8)} (h:fillOk l d c r rs=true) (hl:xs.length=roD d) (hx:∀ i,i < roD d→(xs.getD i []).length=0∨xs.getD i []=(fillL (roD d) (roF l d c r) rs).getD i [])
    (hm:(missB (dataL l d c r xs)).length ≤ 2 - (missB [parL l d c r xs,parQ l d c r xs]).length):roTake l d c r xs=some rs:=by
 obtain ⟨hk,hn,ha⟩:=fillOk_yes h
 have R:=ro_of hk
 have hw1:=R.w1;have hw7:=R.w7;have hW:=R.hW;have hlv:=R.lv
 have at_:∀ k,k < roD d→(xs.getD (roS (roD d) (roF l d c r) k) []).length=0∨xs.getD (roS (roD d) (roF l d c r) k) []=(allL rs).getD k []:=fun k hk=>by
  have:=hx _ (roS_lt R.hF hk)
  rwa [fillL_at R.hF hk] at this
 rw [roTake_yes hk hl]
 refine solveB_back ⟨by omega,ha,by rw [dataL_len,hn],fun k hk=>?_⟩ (by omega) (by omega) ?_ ?_ hm
 ·rw [dataL_get (by omega),← allL_data hk];exact at_ k (by omega)
 ·have:=at_ (roW l d) (by omega)
  rw [← hn,allL_p,hn] at this
  exact this
 ·unfold parQ
  split
  ·next h6 =>
   have:=at_ (roW l d + 1) (by omega)
   rw [← hn,allL_q,hn] at this
   exact this
  ·exact .inl rfl
theorem fill_32 {l d c r:Int} {rs:List (List UInt8)} (h:fillOk l d c r rs=true) {i:Nat} (hi:i < roD d):((fillL (roD d) (roF l d c r) rs).getD i []).length=32:=by
 obtain ⟨hk,hn,ha⟩:=fillOk_yes h
 have R:=ro_of hk
 have hw1:=R.w1;have hlv:=R.lv
 have:=roI_lt R.hF hi
 rw [fillL_get R.hF hi]
 exact allL_32 (by omega) ha (by omega)
end Go.Proofs.YtldfoadildaljaaGreat
end
section
namespace Go.Proofs.YtldfoadildaljaaGreat
open Go.RowKit
theorem new_at (w:World):DskAt (w.alloc (.cells (dcells (List.replicate 1664 0) (List.replicate 1664 0) (.slice none 0 0) false).toArray 97)) w.heap.size w.heap.size (.slice none 0 0) Dsk.new :=
 ⟨heap_alloc_new _ _,World.ownsRow_nil _ _ _ _,Nat.le_refl _,by simp [Value.ownBlock],Dsk.new_ok⟩
theorem dsk_new_any (w:World):Calls Tryz.prog 53 #[] w fun e w'=>e=.returned (.pointer (some ⟨w.heap.size,0,none⟩))∧DskAt w' w.heap.size w.heap.size (.slice none 0 0) Dsk.new∧Below w.heap.size w w':=by
 have H:=Lib.hid (new_at w)
 have hbuild:=build_new
 generalize hC:dcells (List.replicate 1664 0) (List.replicate 1664 0) (.slice none 0 0) false=C at H hbuild
 clear hC
 go_enter Tryz.func53,Tryz.ntmps53
 go_wp2_with ((refine wpList_build_run rfl 97 #[] (by rfl) #[] (by simp) (.agg C.toArray) (hbuild _) ?_))
 go_ret
 exact ⟨rfl,H.out,below1 _ _⟩
section
variable (B b:Nat) (pv:Value) (D:Dsk) (w:World) (h:DskAt w B b pv D)
include h
theorem dsk_failed_any:Calls Tryz.prog 107 #[.pointer (some ⟨b,0,none⟩)] w fun e w'=>e=.returned (.bool D.f)∧w'=w:=by
 have hc:=cell_df h.blk h.ok.S h.ok.now
 clear h
 go_enter Tryz.func107,Tryz.ntmps107
 go_wp2
 go_ret
 exact ⟨rfl,rfl⟩
theorem dsk_pending_any:Calls Tryz.prog 39 #[.pointer (some ⟨b,0,none⟩)] w fun e w'=>e=.returned (.int .i64 (D.ps.length:Int))∧w'=w:=by
 have hc:=cell_dpv h.blk h.ok.S h.ok.now
 have hv:∃ A c,pv=.slice A D.ps.length c:=by
  rcases h.own.2 with ⟨h1,h2⟩ | ⟨g,cap,cur,h1,_⟩
  ·exact ⟨none,0,by rw [h2];exact h1⟩
  ·exact ⟨_,_,h1⟩
 obtain ⟨A,c,rfl⟩:=hv
 clear h
 go_enter Tryz.func39,Tryz.ntmps39
 go_wp2
 go_ret
 exact ⟨rfl,rfl⟩
def reachE (f:Bool) (k:Int):Int:=if f=true then 5 else if k < 0∨52 ≤ k then 4 else 0
theorem dsk_reach_any (k:Int) (hk:-9223372036854775808 ≤ k∧k ≤ 9223372036854775807):Calls Tryz.prog 73 #[.pointer (some ⟨b,0,none⟩),.int .i64 k] w fun e w'=>e=.returned (.int .i64 (reachE D.f k))∧w'=w:=by
 have hc:=cell_df h.blk h.ok.S h.ok.now
 have HE:Hid (reachE D.f k=if D.f=true then 5 else if k < 0∨52 ≤ k then 4 else 0):=rfl
 clear h
 generalize D.f=f at hc HE ⊢
 generalize reachE f k=E at HE ⊢
 cases f
 ·by_cases h1:k < 0
  ·have HE2:=Lib.hid (show E=4 by rw [HE.out,if_neg (by simp),if_pos (.inl h1)])
   clear HE
   go_enter Tryz.func73,Tryz.ntmps73
   go_wp2
   go_ret
   exact ⟨by rw [HE2.out];rfl,rfl⟩
  ·by_cases h2:52 ≤ k
   ·have HE2:=Lib.hid (show E=4 by rw [HE.out,if_neg (by simp),if_pos (.inr h2)])
    clear HE
    go_enter Tryz.func73,Tryz.ntmps73
    go_wp2
    go_ret
    exact ⟨by rw [HE2.out];rfl,rfl⟩
   ·have HE2:=Lib.hid (show E=0 by rw [HE.out,if_neg (by simp),if_neg (by omega)])
    clear HE
    go_enter Tryz.func73,Tryz.ntmps73
    go_wp2
    go_ret
    exact ⟨by rw [HE2.out];rfl,rfl⟩
 ·have HE2:=Lib.hid (show E=5 by rw [HE.out,if_pos rfl])
  clear HE
  go_enter Tryz.func73,Tryz.ntmps73
  go_wp2
  go_ret
  exact ⟨by rw [HE2.out];rfl,rfl⟩
def takeE (f:Bool) (k:Int) (n:Nat):Int:=if reachE f k ≠ 0 then reachE f k else if n ≠ 32 then 1 else 0
theorem dsk_take_any (k:Int) (A:Option Addr) (n c:Nat) (hk:-9223372036854775808 ≤ k∧k ≤ 9223372036854775807) (hn:n ≤ 140737488355328) :
    Calls Tryz.prog 75 #[.pointer (some ⟨b,0,none⟩),.int .i64 k,.slice A n c] w fun e w'=>e=.returned (.int .i64 (takeE D.f k n))∧w'=w:=by
 have C:=Lib.hid (dsk_reach_any B b pv D w h k hk)
 have HE:Hid (takeE D.f k n=if reachE D.f k ≠ 0 then reachE D.f k else if n ≠ 32 then 1 else 0):=rfl
 clear h
 generalize takeE D.f k n=E at HE ⊢
 generalize reachE D.f k=R at HE C
 by_cases h1:R=0
 ·subst h1
  by_cases h2:n=32
  ·have HE2:=Lib.hid (show E=0 by rw [HE.out,if_neg (by simp),if_neg (by simp [h2])])
   have e2:((n:Int) != 32)=false:=by subst h2;rfl
   clear HE h2
   go_enter Tryz.func75,Tryz.ntmps75
   go_wp2_with fail
   refine C.out.mono ?_
   rintro e w' ⟨rfl,rfl⟩
   go_wp2
   go_ret
   exact ⟨by rw [HE2.out];rfl,rfl⟩
  ·have HE2:=Lib.hid (show E=1 by rw [HE.out,if_neg (by simp),if_pos h2])
   have e2:((n:Int) != 32)=true:=by rw [bne_iff_ne];omega
   clear HE h2
   go_enter Tryz.func75,Tryz.ntmps75
   go_wp2_with fail
   refine C.out.mono ?_
   rintro e w' ⟨rfl,rfl⟩
   go_wp2
   go_ret
   exact ⟨by rw [HE2.out];rfl,rfl⟩
 ·have HE2:=Lib.hid (show E=R by rw [HE.out,if_pos h1])
  have e2:(R != 0)=true:=by rw [bne_iff_ne];exact h1
  clear HE h1
  go_enter Tryz.func75,Tryz.ntmps75
  go_wp2_with fail
  refine C.out.mono ?_
  rintro e w' ⟨rfl,rfl⟩
  go_wp2
  go_ret
  exact ⟨by rw [HE2.out];rfl,rfl⟩
end
end Go.Proofs.YtldfoadildaljaaGreat
end
section
set_option maxRecDepth 8000
namespace Go.Proofs.YtldfoadildaljaaGreat
open Go.RowKit
theorem range_heap {w w':World} {b o:Nat} {cs:List Value} (h:w.rangeAt b o cs) (hb:w'.heap[b]?=w.heap[b]?):w'.rangeAt b o cs:=fun j v hj=>(World.cell?_of_block (a:=⟨b,o + j,none⟩) hb).trans (h j v hj)
section
variable {P:Program}
theorem wpStill_load_mid {ops:Array Oper} {rest:List Oper} {op:Oper} {a:Act} {w:World} {Q:Act→Prop} (hgd:op.guard=none) (ty:TypeId) (x:Operand) (ho:op.op=.load ty x)
    (b o:Nat) (hx:a.eval x=.pointer (some ⟨b,o,none⟩)) (cs:List Value) (d:TypeDesc) (hc:w.rangeAt b o cs) (hu:P.underlying ty=some d) (hd:d.isRow=true) (hi:(P.info? ty).map (·.size)=some cs.length)
    (h:wpStill P ops w Q rest (a.put op.dst (.agg cs.toArray))):wpStill P ops w Q (op::rest) a:=by
 refine wpStill_step (fun K hK=>?_)
 rw [if_pos (by simp [Region.wanted,hgd])]
 unfold Oper.still execOp
 simp only [ho,hx,Instr.loadAt,Instr.sureAddr,Sem.run_bind,Sem.run_pure,Result.andThen_ok,run_loadVar_mid w b o ty cs d hc hu hd hi]
 exact ⟨rfl,hK _ h⟩
theorem spl_all {cur vs:List Value} (h:vs.length=cur.length):spl cur 0 vs=vs:=by
 unfold spl;simp [h]
theorem foldl_spl (o:Nat) (vs:Array Value) (z:Array Value) (h:o + vs.size ≤ z.size):vs.zipIdx.foldl (fun cs (x:Value × Nat)=>cs.setIfInBounds (o + x.2) x.1) z=(spl z.toList o vs.toList).toArray:=by
 obtain ⟨h1,h2⟩:=Go.Great.foldl_set o vs.toList 0 z
 have e:vs.zipIdx.foldl (fun cs (x:Value × Nat)=>cs.setIfInBounds (o + x.2) x.1) z=(vs.toList.zipIdx 0).foldl (fun cs (x:Value × Nat)=>cs.setIfInBounds (o + x.2) x.1) z:=by
  rw [← Array.foldl_toList,Array.toList_zipIdx]
 rw [e]
 apply Array.ext_getElem?
 intro k
 have hl1:(z.toList.take o).length=o:=by rw [List.length_take,Array.length_toList];omega
 have e3:∀ l:List Value,l.toArray[k]?=l[k]?:=fun l=>by simp
 rw [h2 k,e3 (spl z.toList o vs.toList)]
 unfold spl
 simp only [Nat.add_zero,Array.length_toList]
 by_cases c1:k < o
 ·rw [if_neg (by omega),List.append_assoc,List.getElem?_append_left (by omega),List.getElem?_take,if_pos c1,Array.getElem?_toList]
 ·by_cases c2:k < o + vs.size
  ·rw [if_pos (by omega),List.append_assoc,List.getElem?_append_right (by omega),hl1,List.getElem?_append_left (by rw [Array.length_toList];omega)]
  ·rw [if_neg (by omega),List.getElem?_append_right (l₁:=z.toList.take o ++ vs.toList) (by rw [List.length_append,hl1,Array.length_toList];omega),List.length_append,hl1,Array.length_toList,List.getElem?_drop,Array.getElem?_toList]
   congr 1
   omega
theorem fill_step (place:Nat→Option (Nat × Nat)) (z:Array Value) (i o:Nat) (v:Value) (rest:List (Nat × Value)) (hp:place i=some (o,v.cells.size)) (h:o + v.cells.size ≤ z.size) :
    Instr.fill place z ((i,v)::rest)=Instr.fill place (spl z.toList o v.cells.toList).toArray rest:=by
 rw [Instr.fill]
 simp only [hp]
 rw [if_neg (by simp;omega),← foldl_spl o v.cells z h]
end
theorem build_write (u v:Value) (hu:u.cells.size=1) (hv:v.cells.size=32) (w:World):(Instr.build 99 #[(0,u),(1,v)]).run Tryz.prog w=.ok (.agg (u.cells ++ v.cells)) w:=by
 refine run_build w _ _ _ ?_
 have e:Tryz.prog.built 99 [(0,u),(1,v)]=Instr.fill ((#[(0,1),(1,32)]:Array (Nat × Nat))[·]?) (Value.int .i64 0::List.replicate 32 (Value.int .u8 0)).toArray [(0,u),(1,v)]:=by kernel_rfl
 refine e.trans ?_
 generalize hU:u.cells=U at hu
 generalize hV:v.cells=V at hv
 obtain ⟨x,rfl⟩:∃ x,U=#[x]:=⟨U[0]'(by omega),by
  apply Array.ext
  ·simpa using hu
  ·intro i h1 h2
   obtain rfl:i=0:=by simp at h2;omega
   rfl⟩
 rw [fill_step _ _ 0 0 _ _ (by rw [hU];rfl) (by rw [hU];simp),fill_step _ _ 1 1 _ _ (by rw [hV,hv];rfl) (by rw [hU,hV];simp [spl,hv]),Instr.fill,hU,hV]
 congr 1
 have e2:spl (Value.int .i64 0::List.replicate 32 (Value.int .u8 0)) 0 [x]=[x] ++ List.replicate 32 (Value.int .u8 0) ++ []:=rfl
 have e3:=spl_mid (A:=[x]) (X:=List.replicate 32 (Value.int .u8 0)) (C:=[]) (vs:=V.toList) (o:=1) rfl (by simp [hv])
 apply Array.ext'
 simp only [Array.toList_append]
 rw [e2,e3]
 simp
theorem built_slice (v:Value) (hv:v.cells.size=33) (w:World):(Instr.buildSlice 95 1 #[(0,v)]).run Tryz.prog w=.ok (.slice (some ⟨w.heap.size,0,none⟩) 1 1) (w.alloc (.cells v.cells 99)):=by
 have hi:(Tryz.prog.info? 99).map (fun i=>(i.zero,i.size))=some (some (.agg (Value.int .i64 0::List.replicate 32 (Value.int .u8 0)).toArray),33):=by kernel_rfl
 obtain ⟨i,hi,hzz⟩:=Option.map_eq_some_iff.1 hi
 simp only [Prod.mk.injEq] at hzz
 obtain ⟨hz,hs⟩:=hzz
 refine run_buildSlice w _ _ 1 _ _ i _ Tryz.underlying95 hi hz (by rw [hs];decide) (by rw [hs];decide) ?_
 rw [hs]
 rw [fill_step _ _ 0 0 _ _ (by simp [hv]) (by simp [hv]),Instr.fill]
 congr 1
 rw [spl_all (by simp [hv])]
theorem wp_build_write {dst:Option Tmp} {x y:Operand} {ty:TypeId} {pos:String} {after:Array Edge} {a:Act} {w:World} {K:Act→World→Prop} {Q:Exit→Act→World→Prop} (hx:(a.eval x).cells.size=1) (hy:(a.eval y).cells.size=32) :
    Oper.wp Tryz.prog ⟨dst,.build 99 #[(0,x),(1,y)],ty,pos,after,none⟩ a w K Q=K (a.put dst (.agg ((a.eval x).cells ++ (a.eval y).cells))) w:=by
 unfold Oper.wp execOp
 simp only [List.map_toArray,List.map_cons,List.map_nil,Sem.run_bind,build_write _ _ hx hy,Result.andThen_ok]
 simp [Oper.upon_value]
theorem exec_build_write {dst:Option Tmp} {x y:Operand} {ty:TypeId} {pos:String} {after:Array Edge} {a:Act} {w:World} (hx:(a.eval x).cells.size=1) (hy:(a.eval y).cells.size=32) :
    Sem.run Tryz.prog (execOp a.eval ⟨dst,.build 99 #[(0,x),(1,y)],ty,pos,after,none⟩) w=.ok (.value (.agg ((a.eval x).cells ++ (a.eval y).cells))) w:=by
 unfold execOp
 simp only [List.map_toArray,List.map_cons,List.map_nil,Sem.run_bind,build_write _ _ hx hy,Result.andThen_ok]
 simp
theorem wp_built_slice {dst:Option Tmp} {x:Operand} {ty:TypeId} {pos:String} {after:Array Edge} {a:Act} {w:World} {K:Act→World→Prop} {Q:Exit→Act→World→Prop} (hx:(a.eval x).cells.size=33) :
    Oper.wp Tryz.prog ⟨dst,.buildSlice 95 1 #[(0,x)],ty,pos,after,none⟩ a w K Q=K (a.put dst (.slice (some ⟨w.heap.size,0,none⟩) 1 1)) (w.alloc (.cells (a.eval x).cells 99)):=by
 unfold Oper.wp execOp
 simp only [List.map_toArray,List.map_cons,List.map_nil,Sem.run_bind,built_slice _ hx,Result.andThen_ok]
 simp [Oper.upon_value]
theorem arr_at (A:Option Addr) (n c:Nat) (hn:32 ≤ n) (w:World):(Instr.arrayAt 93 (.slice A n c)).run Tryz.prog w=.ok (.pointer A) w:=by
 have h:¬ n < 32:=by omega
 simp [Instr.arrayAt,run_underlying Tryz.underlying93,h]
end Go.Proofs.YtldfoadildaljaaGreat
end
section
set_option linter.unusedVariables false
set_option linter.unusedSimpArgs false
namespace Go.Proofs.YtldfoadildaljaaGreat
theorem len_le_map {f:Nat→Nat}:∀ {l1 l2:List Nat},l1.Nodup→(∀ a ∈ l1,∀ b ∈ l1,f a=f b→a=b)→(∀ a ∈ l1,f a ∈ l2)→l1.length ≤ l2.length
 | [],_,_,_,_=>Nat.zero_le _
 | a::l,l2,hn,hi,hm=>by
   obtain ⟨h1,h2⟩:=List.nodup_cons.1 hn
   have ha:=hm a (List.mem_cons_self ..)
   have hl:=List.length_erase_of_mem ha
   have hp:=List.length_pos_of_mem ha
   have:=len_le_map (f:=f) (l1:=l) (l2:=l2.erase (f a)) h2 (fun b hb c hc=>hi b (List.mem_cons_of_mem _ hb) c (List.mem_cons_of_mem _ hc)) fun b hb =>
    (List.mem_erase_of_ne (fun e=>h1 (by rw [← hi b (List.mem_cons_of_mem _ hb) a (List.mem_cons_self ..) e];exact hb))).2 (hm b (List.mem_cons_of_mem _ hb))
   simp only [List.length_cons]
   omega
def cntB (n:Nat) (b:Nat→Bool):Nat:=((List.range n).filter b).length
theorem cntB_succ (n:Nat) (b:Nat→Bool):cntB (n + 1) b=if b n=true then cntB n b + 1 else cntB n b:=by
 unfold cntB
 rw [List.range_succ,List.filter_append]
 by_cases h:b n=true
 ·rw [if_pos h,List.filter_cons_of_pos h,List.length_append];rfl
 ·rw [if_neg h,List.filter_cons_of_neg h,List.length_append];rfl
theorem cntB_congr {n:Nat} {b b':Nat→Bool} (h:∀ i,i < n→b i=b' i):cntB n b=cntB n b':=by
 unfold cntB
 rw [List.filter_congr fun i hi=>h i (List.mem_range.1 hi)]
theorem cntB_roS {D F:Nat} (hF:F < D) (b:Nat→Bool):cntB D b=cntB D fun k=>b (roS D F k):=by
 unfold cntB
 apply Nat.le_antisymm
 ·refine len_le_map (f:=roI D F) (List.nodup_range.filter _) (fun i hi j hj e=>?_) fun i hi=>?_
  ·have h1:=List.mem_range.1 (List.mem_filter.1 hi).1
   have h2:=List.mem_range.1 (List.mem_filter.1 hj).1
   rw [← roS_roI hF h1,e,roS_roI hF h2]
  ·obtain ⟨h1,h2⟩:=List.mem_filter.1 hi
   have h1:=List.mem_range.1 h1
   refine List.mem_filter.2 ⟨List.mem_range.2 (roI_lt hF h1),?_⟩
   rw [roS_roI hF h1]
   exact h2
 ·refine len_le_map (f:=roS D F) (List.nodup_range.filter _) (fun i hi j hj e=>roS_inj hF (List.mem_range.1 (List.mem_filter.1 hi).1) (List.mem_range.1 (List.mem_filter.1 hj).1) e) fun i hi=>?_
  obtain ⟨h1,h2⟩:=List.mem_filter.1 hi
  exact List.mem_filter.2 ⟨List.mem_range.2 (roS_lt hF (List.mem_range.1 h1)),h2⟩
theorem cntB_none {n:Nat} {b:Nat→Bool} (h:∀ i,i < n→b i=false):cntB n b=0:=by
 induction n with
 | zero=>rfl
 | succ n ih=>rw [cntB_succ,if_neg (by rw [h n (by omega)];decide),ih fun i hi=>h i (by omega)]
theorem cntB_one {n k:Nat} (hk:k < n):cntB n (fun i=>decide (i=k))=1:=by
 induction n with
 | zero=>omega
 | succ n ih =>
   rw [cntB_succ]
   by_cases h:k=n
   ·subst h
    rw [if_pos (by simp),cntB_none fun i hi=>by simp;omega]
   ·rw [if_neg (by simpa using fun e=>h e.symm),ih (by omega)]
end Go.Proofs.YtldfoadildaljaaGreat
end
section
namespace Go.Proofs.YtldfoadildaljaaGreat
open Go.RowKit
end Go.Proofs.YtldfoadildaljaaGreat
end
section
set_option maxRecDepth 20000
namespace Go.Proofs.YtldfoadildaljaaGreat
open Go.RowKit
theorem OwB.drewI {e:TypeId} {w:World} {B:Nat} {v:Value} {bs:List UInt8} (h:OwB e w B v bs):OwB e w.drew B v bs:=h
theorem mul_u8 (x:UInt8) (f:Nat) (hf:f < 256) (w:World):Calls Tryz.prog 106 #[.int .u8 (x.toNat:Int),.int .u8 (f:Int)] w fun e w'=>e=.returned (.int .u8 ((mulU x f).toNat:Int))∧w'=w:=by
 rw [mulU_nat]
 exact mul_any x.toNat f x.toNat_lt hf w
set_option maxHeartbeats 800000 in
theorem q_any (A:Option Addr) (rs:List (List UInt8)) (n cp:Nat) (w:World) (hn:rs.length=n) (hr:RdR w w.heap.size A rs) :
    Calls Tryz.prog 87 #[.slice A n cp] w fun e w'=>∃ v,e=.returned v∧OwB 5 w' w.heap.size v (qB rs)∧Below w.heap.size w w':=by
 have C:=Lib.hid (zeros_any A rs n cp w hn hr)
 subst hn
 have hm:=hr.1
 by_cases h0:zerosB rs=[]
 ·have Hp:Hid (qB rs=[]):=sumG_nil gQ_len h0
  rw [h0] at C
  clear h0
  go_enter Tryz.func87,Tryz.ntmps87
  go_wp2_with fail
  refine C.out.mono ?_
  rintro e w1 ⟨v,rfl,ho,hb⟩
  obtain ⟨A1,c1,rfl⟩:=own_nil_len ho
  go_wp2
  go_ret
  exact ⟨_,rfl,nil_own _ _ Hp.out,hb⟩
 ·obtain ⟨hall,hs,hal⟩:=sumG_cons (g:=gQ) h0
  have Hs:Hid (qB rs=foldG gQ 0 (zerosB rs) rs):=hs
  have Hall:=Lib.hid hall
  have Hf:=Lib.hid (foldG_snoc gQ (zerosB rs) rs)
  have Hl:=Lib.hid (foldG_take_len gQ_len hall)
  have hpos:0 < (zerosB rs).length:=by cases hz:zerosB rs with | nil=>exact absurd hz h0 | cons a b=>simp
  clear hall hs hal h0
  generalize zerosB rs=zs at C Hs Hall Hf Hl hpos
  go_enter Tryz.func87,Tryz.ntmps87
  go_wp2_with fail
  refine C.out.mono ?_
  rintro e w1 ⟨v,rfl,ho,hb⟩
  obtain ⟨g,cap,rfl,hg,hg1,hcap,_,_⟩:=ho.pos hpos
  have hzl:=ho.2
  have e0:((zs.length:Int) == 0)=false:=by rw [beq_eq_false_iff_ne];omega
  go_wp2
  go_loopw [16] (fun i wr=>∃ k:Nat,k ≤ rs.length∧i=.int .i64 k∧OwB 5 wr w.heap.size (.slice (some ⟨g,0,none⟩) zs.length cap) (foldG gQ 0 zs (rs.take k))∧Below w.heap.size w wr) (fun i _=>rs.length - (intOf i).toNat)
  case atStart=>exact ⟨0,Nat.zero_le _,rfl,ho,hb⟩
  case round =>
   obtain ⟨k,hk,rfl,hown,hbr⟩:=hrel
   have Hy:=Lib.hid (Hl.out k)
   by_cases hlt:k < rs.length
   ·obtain ⟨b,off,rfl,hbb,hc⟩:=hr.2 (by omega)
    obtain ⟨A',c',h1,h2⟩:=hc k hlt
    have hln:=Hall.out k hlt
    rw [hln] at h1
    have Hln:=Lib.hid hln
    have Hsn:=Lib.hid (show foldG gQ 0 zs (rs.take (k + 1))=xorL (foldG gQ 0 zs (rs.take k)) (scaleL (rs.getD k []) (gpow (k:Int))) from Hf.out k hlt)
    clear hln hc
    rw [← hbr.cell (p:=⟨b,off + k,none⟩) hbb] at h1
    generalize rs.getD k []=row at h1 h2 Hsn Hln
    generalize foldG gQ 0 zs (rs.take k)=y at hown Hsn Hy
    have hlen:=h2.1
    have CP:=Lib.hid (fun W=>pow_any (k:Int) (by omega) W)
    have hfp:=gpow_lt (k:Int)
    generalize gpow (k:Int)=f at CP Hsn hfp
    go_wp2_with fail
    refine (CP.out _).mono ?_
    rintro e w2 ⟨rfl,rfl⟩
    go_wp2
    go_loopw [25] (fun i wr=>∃ j:Nat,j ≤ zs.length∧i=.int .i64 j∧OwB 5 wr w.heap.size (.slice (some ⟨g,0,none⟩) zs.length cap) (xorTo y (scaleL row f) j)∧Below w.heap.size w wr) (fun i _=>zs.length - (intOf i).toNat)
    case atStart=>exact ⟨0,Nat.zero_le _,rfl,by rw [xorTo_zero];exact hown,hbr⟩
    case round =>
     obtain ⟨j,hj,rfl,hown2,hbr2⟩:=hrel
     have Hry:=Lib.hid (show (scaleL row f).length=y.length from (scaleL_len _ _).trans (Hln.out.trans Hy.out.symm))
     by_cases hlt2:j < zs.length
     ·obtain ⟨b2,off2,rfl,hb2,hc2⟩:=h2.2 (by have:=Hln.out;omega)
      have h3:=hc2 j (by have:=Hln.out;omega)
      rw [← hbr2.cell (p:=⟨b2,off2 + j,none⟩) hb2] at h3
      have hown3:=hown2.drewI
      have hbr3:=hbr2.drew
      obtain ⟨h4,h5⟩:=hown3.cell ((xorTo_len Hry.out (by have:=Hy.out;omega)).trans Hy.out) j hlt2
      rw [xorTo_get Hry.out (by have:=Hy.out;omega)] at h4
      have Hset:=Lib.hid (hown3.set ((xorTo_len Hry.out (by have:=Hy.out;omega)).trans Hy.out) j (y.getD j 0 ^^^ (scaleL row f).getD j 0)).1
      have Hx:=Lib.hid (xorTo_succ Hry.out (show j < y.length by have:=Hy.out;omega))
      rw [scaleL_get] at Hset Hx
      have i0:(0:Int) ≤ (j:Int):=by omega
      have i1:(j:Int) < (zs.length:Int):=by omega
      generalize row.getD j 0=c at h3 Hset Hx
      have CM:=Lib.hid (fun W=>mul_u8 c f hfp W)
      generalize mulU c f=m at CM Hset Hx
      have ex:=xor_u8 (y.getD j 0) m
      generalize y.getD j 0=d at h4 Hset Hx ex
      generalize d ^^^ m=dc at Hset Hx ex
      clear hc2
      go_wp2_with fail
      refine wp_region_still_tail 9 (by kernel_rfl) (by kernel_rfl) ?_
      simp only [List.take_succ_cons,List.take_zero,List.drop_succ_cons,List.drop_zero]
      change wpStill _ _ wr.drew _ _ _
      generalize hwd:wr.drew=wd at h4 h5 Hset hbr3 hown3 ⊢
      have Hwd:=Lib.hid hwd
      clear hwd
      repeat (first | still_step | (still_call (CM.out _)))
      refine wpStill_nil ?_
      change wpList _ _ _ _ _ wr.drew
      rw [Hwd.out]
      go_wp2
      go_roundw
      case rel=>exact ⟨j + 1,by omega,by go_num,by rw [← Hx.out];exact Hset.out,hbr3.setCell (p:=⟨g,j,none⟩) hg _⟩
      case measure=>simp [intOf];omega
     ·obtain rfl:j=zs.length:=by omega
      have Hxa:=Lib.hid (show xorTo y (scaleL row f) zs.length=xorL y (scaleL row f) by rw [← Hy.out];exact xorTo_all Hry.out)
      rw [Hxa.out] at hown2
      go_wp2
      go_roundw
      case rel=>exact ⟨k + 1,by omega,by go_num,by rw [Hsn.out];exact hown2,hbr2⟩
      case measure=>simp [intOf];omega
   ·obtain rfl:k=rs.length:=by omega
    have Hall2:=Lib.hid (show foldG gQ 0 zs (rs.take rs.length)=qB rs by rw [List.take_length];exact Hs.out.symm)
    rw [Hall2.out] at hown
    go_wp2
    go_ret
    exact ⟨_,rfl,hown,hbr⟩
theorem add_any (A A':Option Addr) (a b:List UInt8) (n n' c c' B:Nat) (w:World) (hn:n=a.length) (hn':n'=b.length) (hr:RdB w B A a) (hr':RdB w B A' b) (hB:B ≤ w.heap.size) :
    Calls Tryz.prog 118 #[.slice A n c,.slice A' n' c'] w fun e w'=>∃ v,e=.returned v∧OwB 5 w' w.heap.size v (pB [a,b])∧Below w.heap.size w w':=by
 subst hn hn'
 have C:=Lib.hid (p_any (some ⟨w.heap.size,0,none⟩) [a,b] 2 2 (w.alloc (.cells #[.slice A a.length c,.slice A' b.length c'] 48)) rfl (by have:=rdr_two (c:=c) (c':=c') (t:=48) hr hr' hB;exact this.more (by simp)))
 go_enter Tryz.func118,Tryz.ntmps118
 go_wp2_with fail
 refine C.out.mono ?_
 rintro e w1 ⟨v,rfl,ho,hb⟩
 go_wp2
 go_ret
 exact ⟨v,rfl,ho.le (by simp),(below1 w _).trans (hb.mono (by simp))⟩
def scTo (a:List UInt8) (f j:Nat):List UInt8:=scaleL (a.take j) f ++ zeroL (a.length - j)
theorem scTo_len (a:List UInt8) (f:Nat) {j:Nat} (hj:j ≤ a.length):(scTo a f j).length=a.length:=by
 simp [scTo,scaleL_len,zeroL_len];omega
theorem scTo_zero (a:List UInt8) (f:Nat):scTo a f 0=List.replicate a.length 0:=by simp [scTo,scaleL,zeroL]
theorem scTo_all (a:List UInt8) (f:Nat):scTo a f a.length=scaleL a f:=by simp [scTo,zeroL]
theorem scTo_succ (a:List UInt8) (f:Nat) {j:Nat} (hj:j < a.length):(scTo a f j).set j (mulU (a.getD j 0) f)=scTo a f (j + 1):=by
 have hl:(scaleL (a.take j) f).length=j:=by rw [scaleL_len];simp;omega
 unfold scTo
 rw [List.set_append_right _ _ (by omega),hl,Nat.sub_self]
 rw [show a.length - j=(a.length - (j + 1)) + 1 from by omega]
 unfold zeroL
 rw [List.replicate_succ,List.set_cons_zero,List.take_succ_eq_append_getElem hj]
 unfold scaleL
 rw [List.map_append,List.append_assoc]
 simp [hj]
set_option maxHeartbeats 400000 in
theorem scale_any (A:Option Addr) (a:List UInt8) (n c f:Nat) (w:World) (hn:n=a.length) (hf:f < 256) (hr:RdB w w.heap.size A a) :
    Calls Tryz.prog 119 #[.slice A n c,.int .u8 (f:Int)] w fun e w'=>∃ v,e=.returned v∧OwB 5 w' w.heap.size v (scaleL a f)∧Below w.heap.size w w':=by
 subst hn
 have hm:=hr.1
 have km:=make_bytes a.length hm
 have own0:=own_make 5 w a.length hm
 rw [← scTo_zero a f] at own0
 go_enter Tryz.func119,Tryz.ntmps119
 go_wp2
 go_loopw [13] (fun i wr=>∃ j:Nat,j ≤ a.length∧i=.int .i64 j∧OwB 5 wr w.heap.size (.slice (some ⟨w.heap.size,0,none⟩) a.length a.length) (scTo a f j)∧Below w.heap.size w wr) (fun i _=>a.length - (intOf i).toNat)
 case atStart=>exact ⟨0,Nat.zero_le _,rfl,own0,below1 _ _⟩
 case round =>
  obtain ⟨j,hj,rfl,hown,hbr⟩:=hrel
  by_cases hlt:j < a.length
  ·obtain ⟨b2,off2,rfl,hb2,hc2⟩:=hr.2 (by omega)
   have h3:=hc2 j hlt
   rw [← hbr.cell (p:=⟨b2,off2 + j,none⟩) hb2] at h3
   obtain ⟨h4,h5⟩:=hown.cell (scTo_len a f (by omega)) j hlt
   have Hset:=Lib.hid (hown.set (scTo_len a f (by omega)) j (mulU (a.getD j 0) f)).1
   rw [scTo_succ a f hlt] at Hset
   have i0:(0:Int) ≤ (j:Int):=by omega
   have i1:(j:Int) < (a.length:Int):=by omega
   have CM:=Lib.hid (fun W=>mul_u8 (a.getD j 0) f hf W)
   generalize mulU (a.getD j 0) f=m at CM Hset
   generalize a.getD j 0=x at h3 CM
   generalize (scTo a f j).getD j 0=d at h4
   clear hc2
   go_wp2_with fail
   refine (CM.out _).mono ?_
   rintro e w2 ⟨rfl,rfl⟩
   go_wp2
   go_roundw
   case rel=>exact ⟨j + 1,by omega,by go_num,Hset.out,hbr.setCell (p:=⟨w.heap.size,j,none⟩) (Nat.le_refl _) _⟩
   case measure=>simp [intOf];omega
  ·obtain rfl:j=a.length:=by omega
   rw [scTo_all] at hown
   go_wp2
   go_ret
   exact ⟨_,rfl,hown,hbr⟩
end Go.Proofs.YtldfoadildaljaaGreat
end
section
namespace Go.Proofs.YtldfoadildaljaaGreat
open Go.RowKit
theorem info_row:(Tryz.prog.info? 48).map (fun i=>(i.zero,i.size,i.bytes))=some (some (.slice none 0 0),1,24):=by kernel_rfl
theorem OwB.addr_ob {e:TypeId} {w:World} {B:Nat} {A:Option Addr} {n c:Nat} {bs:List UInt8} (h:OwB e w B (.slice A n c) bs) (hp:0 < bs.length):∀ a,A=some a→B ≤ a.block:=fun a ha=>by
 obtain ⟨g,cap,hv,hB,_⟩:=h.pos hp
 injection hv with h1 _ _
 rw [ha] at h1
 injection h1 with h1
 subst h1
 exact hB
end Go.Proofs.YtldfoadildaljaaGreat
end
section
namespace Go.Proofs.YtldfoadildaljaaGreat
open Go.RowKit
def Gives (w:World) (p:List UInt8) (e:Ending) (w':World):Prop:=∃ A c,e=.returned (.slice A p.length c)∧OwB 5 w' w.heap.size (.slice A p.length c) p∧Below w.heap.size w w'
theorem gives_of {w:World} {p q:List UInt8} (hp:p=q) {e:Ending} {w':World} (h:∃ v,e=.returned v∧OwB 5 w' w.heap.size v p∧Below w.heap.size w w'):Gives w q e w':=by
 subst hp
 obtain ⟨v,he,ho,hb⟩:=h
 obtain ⟨A,c,rfl,_,_⟩:=ho.rd
 exact ⟨A,c,he,ho,hb⟩
theorem p_gives {A:Option Addr} {rs:List (List UInt8)} {n cp:Nat} {w:World} {p:List UInt8} (hr:RdR w w.heap.size A rs) (hn:rs.length=n) (hp:pB rs=p):Calls Tryz.prog 86 #[.slice A n cp] w (Gives w p) :=
 (p_any A rs n cp w hn hr).mono fun _ _ h=>gives_of hp h
theorem q_gives {A:Option Addr} {rs:List (List UInt8)} {n cp:Nat} {w:World} {p:List UInt8} (hr:RdR w w.heap.size A rs) (hn:rs.length=n) (hp:qB rs=p):Calls Tryz.prog 87 #[.slice A n cp] w (Gives w p) :=
 (q_any A rs n cp w hn hr).mono fun _ _ h=>gives_of hp h
end Go.Proofs.YtldfoadildaljaaGreat
end
section
namespace Go.Proofs.YtldfoadildaljaaGreat
open Go.RowKit
theorem gpw_step {x m:Nat} (hx:x < 256) (h:0 < m):gmul (gmul x 2) (gpw 2 (m - 1))=gmul x (gpw 2 m):=by
 obtain ⟨k,rfl⟩:∃ k,m=k + 1:=⟨m - 1,by omega⟩
 rw [← gmul_assoc hx (by decide) (gpw_lt (by decide) _)];rfl
set_option maxRecDepth 100000 in
theorem refPow_any (n:Int) (hn:-9223372036854775808 ≤ n∧n ≤ 9223372036854775807) (w:World):Calls Tryz.prog 71 #[.int .i64 n] w fun e w'=>e=.returned (.int .u8 ((gpow n:Nat):Int))∧w'=w:=by
 obtain ⟨hn1,hn2⟩:=hn
 have Ht:=tmod255 n
 have h0:=Int.emod_nonneg n (show (255:Int) ≠ 0 by omega)
 have h1:=Int.emod_lt_of_pos n (show (0:Int) < 255 by omega)
 have hlo:-255 < n.tmod 255:=Int.lt_tmod_of_pos _ (by omega)
 have hhi:n.tmod 255 < 255:=Int.tmod_lt_of_pos _ (by omega)
 obtain ⟨k,hk⟩:=Int.eq_ofNat_of_zero_le h0
 have H:Hid (gpw 2 k=gpow n):=by unfold gpow;rw [gpw_two_n,hk];exact congrArg gE rfl
 rw [hk] at h1 Ht
 clear hk h0
 by_cases hneg:n.tmod 255 < 0
 ·rw [if_pos hneg] at Ht
  have Ht1:=Lib.hid Ht.symm
  clear Ht
  go_enter Tryz.func71,Tryz.ntmps71
  go_wp2
  have Ht2:=Ht1.out
  clear Ht1 hlo hhi hneg
  generalize n.tmod 255 + 255=z at Ht2 ⊢
  subst Ht2
  go_loop [0,3] (fun vn vx=>∃ m x:Nat,m < 256∧x < 256∧vn=.int .i64 (m:Int)∧vx=.int .u8 (x:Int)∧Hid (gmul x (gpw 2 m)=gpow n)) (fun vn _=>(intOf vn).toNat)
  case atStart=>exact ⟨k,1,by omega,by decide,rfl,rfl,(gmul_one_left _ (gpw_lt (by decide) k)).trans H.out⟩
  case round =>
   obtain ⟨m,x,hm,hx,rfl,rfl,Hm⟩:=hrel
   by_cases hz:m=0
   ·have Hr:Hid (x=gpow n):=by subst hz;rw [← Hm.out];exact (gmul_one_right hx).symm
    have hne:¬ (0:Int) < (m:Int):=by omega
    clear hz Hm
    go_wp2
    go_ret
    exact ⟨ret_int (congrArg Nat.cast Hr.out),rfl⟩
   ·have hne:(0:Int) < (m:Int):=by omega
    have hx2:gmul x 2 < 256:=gmul_lt hx
    have Hr:Hid (gmul (gmul x 2) (gpw 2 (m - 1))=gpow n):=(gpw_step hx (by omega)).trans Hm.out
    clear Hm
    go_wp2_with (go_at_call 72;refine (refMul_any x 2 hx (by decide) _).mono ?_;rintro e w' ⟨rfl,rfl⟩)
    go_round
    case rel=>exact ⟨m - 1,gmul x 2,by omega,hx2,by go_num,rfl,Hr⟩
    case measure=>simp [intOf];omega
 ·rw [if_neg hneg] at Ht
  have Ht1:=Lib.hid Ht.symm
  clear Ht
  go_enter Tryz.func71,Tryz.ntmps71
  go_wp2
  have Ht2:=Ht1.out
  clear Ht1 hlo hhi hneg
  generalize n.tmod 255=z at Ht2 ⊢
  subst Ht2
  go_loop [0,3] (fun vn vx=>∃ m x:Nat,m < 256∧x < 256∧vn=.int .i64 (m:Int)∧vx=.int .u8 (x:Int)∧Hid (gmul x (gpw 2 m)=gpow n)) (fun vn _=>(intOf vn).toNat)
  case atStart=>exact ⟨k,1,by omega,by decide,rfl,rfl,(gmul_one_left _ (gpw_lt (by decide) k)).trans H.out⟩
  case round =>
   obtain ⟨m,x,hm,hx,rfl,rfl,Hm⟩:=hrel
   by_cases hz:m=0
   ·have Hr:Hid (x=gpow n):=by subst hz;rw [← Hm.out];exact (gmul_one_right hx).symm
    have hne:¬ (0:Int) < (m:Int):=by omega
    clear hz Hm
    go_wp2
    go_ret
    exact ⟨ret_int (congrArg Nat.cast Hr.out),rfl⟩
   ·have hne:(0:Int) < (m:Int):=by omega
    have hx2:gmul x 2 < 256:=gmul_lt hx
    have Hr:Hid (gmul (gmul x 2) (gpw 2 (m - 1))=gpow n):=(gpw_step hx (by omega)).trans Hm.out
    clear Hm
    go_wp2_with (go_at_call 72;refine (refMul_any x 2 hx (by decide) _).mono ?_;rintro e w' ⟨rfl,rfl⟩)
    go_round
    case rel=>exact ⟨m - 1,gmul x 2,by omega,hx2,by go_num,rfl,Hr⟩
    case measure=>simp [intOf];omega
end Go.Proofs.YtldfoadildaljaaGreat
end
section
set_option maxRecDepth 20000
namespace Go.Proofs.YtldfoadildaljaaGreat
open Go.RowKit
theorem refMul_u8 (x:UInt8) (f:Nat) (hf:f < 256) (w:World):Calls Tryz.prog 72 #[.int .u8 (x.toNat:Int),.int .u8 (f:Int)] w fun e w'=>e=.returned (.int .u8 ((mulU x f).toNat:Int))∧w'=w:=by
 rw [mulU_nat]
 exact refMul_any x.toNat f x.toNat_lt hf w
set_option maxHeartbeats 400000 in
theorem alike_any (A:Option Addr) (rs:List (List UInt8)) (n cp:Nat) (w:World) (hn:rs.length=n) (hr:RdR w w.heap.size A rs) :
    Calls Tryz.prog 70 #[.slice A n cp] w fun e w'=>e=.returned (.bool (alikeB rs))∧w'=w:=by
 subst hn
 have hm:=hr.1
 by_cases h0:rs.length=0
 ·have hz:=Lib.hid (show alikeB rs=false by rw [List.eq_nil_of_length_eq_zero h0];rfl)
  have Hz:=Lib.hid h0
  clear h0
  go_enter Tryz.func70,Tryz.ntmps70
  rw [Hz.out]
  go_wp2
  go_loop [7] (fun i=>i=.int .i64 0) (fun _=>0)
  case atStart=>rfl
  case round =>
   subst hrel
   go_wp2
   go_ret
   exact ⟨by rw [hz.out];rfl,rfl⟩
 ·obtain ⟨b,off,rfl,hb,hc⟩:=hr.2 (by omega)
  have Hc:=Lib.hid hc
  obtain ⟨A0,c0,k0,r0⟩:=hc 0 (by omega)
  have Hno:=Lib.hid (fun k=>@alikeB_no rs k)
  have Hyes:=Lib.hid (@alikeB_iff rs)
  have hN:=r0.1
  rw [Nat.add_zero] at k0
  have i0:(0:Int) < (rs.length:Int):=by omega
  have i1:0 < rs.length:=by omega
  generalize (rs.getD 0 []).length=N at k0 hN Hno Hyes
  clear hc h0 hr r0
  go_enter Tryz.func70,Tryz.ntmps70
  go_wp2
  go_loop [7] (fun i=>∃ k:Nat,k ≤ rs.length∧i=.int .i64 k∧Hid (∀ j,j < k→(rs.getD j []).length=N)) (fun i=>rs.length - (intOf i).toNat)
  case atStart=>exact ⟨0,Nat.zero_le _,rfl,fun j hj=>by omega⟩
  case round =>
   obtain ⟨k,hk,rfl,Hj⟩:=hrel
   by_cases hlt:k < rs.length
   ·obtain ⟨A',c',h1,h2⟩:=Hc.out k hlt
    have Hno:=Lib.hid (Hno.out k hlt)
    by_cases he:(rs.getD k []).length=N
    ·have Hn:Hid (∀ j,j < k + 1→(rs.getD j []).length=N):=fun j hj=>by
       by_cases hjk:j=k
       ·subst hjk;exact he
       ·exact Hj.out j (by omega)
     rw [he] at h1
     clear h2 he
     go_wp2
     go_round
     case rel=>exact ⟨k + 1,by omega,by go_num,Hn⟩
     case measure=>simp [intOf];omega
    ·have hz:=Lib.hid (Hno.out he)
     have hne:=int_bne_yes he
     clear he
     generalize rs.getD k []=row at h1 h2 hne
     go_wp2
     go_ret
     exact ⟨by rw [hz.out];rfl,rfl⟩
   ·obtain rfl:k=rs.length:=by omega
    have hz:=Lib.hid (Hyes.out.2 ⟨i1,Hj.out⟩)
    go_wp2
    go_ret
    exact ⟨by rw [hz.out];rfl,rfl⟩
set_option maxHeartbeats 800000 in
theorem refP_any (A:Option Addr) (rs:List (List UInt8)) (n cp:Nat) (w:World) (hn:rs.length=n) (hr:RdR w w.heap.size A rs) :
    Calls Tryz.prog 49 #[.slice A n cp] w fun e w'=>∃ v,e=.returned v∧OwB 5 w' w.heap.size v (pB rs)∧Below w.heap.size w w':=by
 have C:=Lib.hid (alike_any A rs n cp w hn hr)
 subst hn
 have hm:=hr.1
 by_cases h0:alikeB rs=true
 ·obtain ⟨hp,hall⟩:=alikeB_iff.1 h0
  have Hs:Hid (pB rs=foldG gP 0 (zeroL (rs.getD 0 []).length) rs):=if_pos h0
  rw [h0] at C
  clear h0
  have Hall:=Lib.hid hall
  obtain ⟨b,off,rfl,hbb,hc⟩:=hr.2 hp
  have Hc:=Lib.hid hc
  obtain ⟨A0,c0,k0,r0⟩:=hc 0 hp
  have hN:=r0.1
  rw [Nat.add_zero] at k0
  have i0:(0:Int) < (rs.length:Int):=by omega
  have Hf:=Lib.hid (foldG_snoc gP (zeroL (rs.getD 0 []).length) rs)
  have Hl:=Lib.hid (foldG_take_len gP_len (z:=zeroL (rs.getD 0 []).length) (fun k hk=>(hall k hk).trans (zeroL_len _).symm))
  rw [zeroL_len] at Hl
  have own0:=own_make 5 w (rs.getD 0 []).length hN
  have km:=make_bytes (rs.getD 0 []).length hN
  rw [show List.replicate (rs.getD 0 []).length (0:UInt8)=zeroL (rs.getD 0 []).length from rfl] at own0
  clear hc hall hr r0
  generalize (rs.getD 0 []).length=N at Hs Hall k0 hN Hf Hl own0 km
  generalize zeroL N=zs at Hs Hf Hl own0
  go_enter Tryz.func49,Tryz.ntmps49
  go_wp2_with fail
  refine C.out.mono ?_
  rintro e w1 ⟨rfl,rfl⟩
  go_wp2
  go_loopw [18] (fun i wr=>∃ k:Nat,k ≤ rs.length∧i=.int .i64 k∧OwB 5 wr w1.heap.size (.slice (some ⟨w1.heap.size,0,none⟩) N N) (foldG gP 0 zs (rs.take k))∧Below w1.heap.size w1 wr) (fun i _=>rs.length - (intOf i).toNat)
  case atStart=>exact ⟨0,Nat.zero_le _,rfl,own0,below1 _ _⟩
  case round =>
   obtain ⟨k,hk,rfl,hown,hbr⟩:=hrel
   have Hy:=Lib.hid (Hl.out k)
   by_cases hlt:k < rs.length
   ·obtain ⟨A',c',h1,h2⟩:=Hc.out k hlt
    have Hsn:=Lib.hid (Hf.out k hlt)
    have hln:=Hall.out k hlt
    rw [hln] at h1
    have Hln:=Lib.hid hln
    clear hln
    rw [← hbr.cell (p:=⟨b,off + k,none⟩) hbb] at h1
    generalize rs.getD k []=row at h1 h2 Hsn Hln
    generalize foldG gP 0 zs (rs.take k)=y at hown Hsn Hy
    have hlen:=h2.1
    go_wp2
    go_loopw [24] (fun i wr=>∃ j:Nat,j ≤ N∧i=.int .i64 j∧OwB 5 wr w1.heap.size (.slice (some ⟨w1.heap.size,0,none⟩) N N) (xorTo y row j)∧Below w1.heap.size w1 wr) (fun i _=>N - (intOf i).toNat)
    case atStart=>exact ⟨0,Nat.zero_le _,rfl,by rw [xorTo_zero];exact hown,hbr⟩
    case round =>
     obtain ⟨j,hj,rfl,hown2,hbr2⟩:=hrel
     have Hry:=Lib.hid (show row.length=y.length from Hln.out.trans Hy.out.symm)
     by_cases hlt2:j < N
     ·obtain ⟨b2,off2,rfl,hb2,hc2⟩:=h2.2 (by have:=Hln.out;omega)
      have h3:=hc2 j (by have:=Hln.out;omega)
      rw [← hbr2.cell (p:=⟨b2,off2 + j,none⟩) hb2] at h3
      obtain ⟨h4,h5⟩:=hown2.cell ((xorTo_len Hry.out (by have:=Hy.out;omega)).trans Hy.out) j hlt2
      rw [xorTo_get Hry.out (by have:=Hy.out;omega)] at h4
      have Hset:=Lib.hid (hown2.set ((xorTo_len Hry.out (by have:=Hy.out;omega)).trans Hy.out) j (y.getD j 0 ^^^ row.getD j 0)).1
      have Hx:=Lib.hid (xorTo_succ Hry.out (show j < y.length by have:=Hy.out;omega))
      have ex:=xor_u8 (y.getD j 0) (row.getD j 0)
      have i0:(0:Int) ≤ (j:Int):=by omega
      have i1:(j:Int) < (N:Int):=by omega
      generalize row.getD j 0=c at h3 Hset Hx ex
      generalize y.getD j 0=d at h4 Hset Hx ex
      generalize d ^^^ c=dc at Hset Hx ex
      clear hc2
      go_wp2
      go_roundw
      case rel=>exact ⟨j + 1,by omega,by go_num,by rw [← Hx.out];exact Hset.out,hbr2.setCell (p:=⟨w1.heap.size,j,none⟩) (Nat.le_refl _) _⟩
      case measure=>simp [intOf];omega
     ·obtain rfl:j=N:=by omega
      have Hxa:=Lib.hid (show xorTo y row j=xorL y row by rw [← Hy.out];exact xorTo_all Hry.out)
      rw [Hxa.out] at hown2
      go_wp2
      go_roundw
      case rel=>exact ⟨k + 1,by omega,by go_num,by rw [Hsn.out];exact hown2,hbr2⟩
      case measure=>simp [intOf];omega
   ·obtain rfl:k=rs.length:=by omega
    have Hall2:=Lib.hid (show foldG gP 0 zs (rs.take rs.length)=pB rs by rw [List.take_length];exact Hs.out.symm)
    rw [Hall2.out] at hown
    go_wp2
    go_ret
    exact ⟨_,rfl,hown,hbr⟩
 ·have hz:alikeB rs=false:=by simpa using h0
  have Hp:Hid (pB rs=[]):=if_neg h0
  rw [hz] at C
  clear hz h0
  go_enter Tryz.func49,Tryz.ntmps49
  go_wp2_with fail
  refine C.out.mono ?_
  rintro e w1 ⟨rfl,rfl⟩
  go_wp2
  go_ret
  exact ⟨_,rfl,nil_own _ _ Hp.out,Below.refl _ _⟩
set_option maxHeartbeats 800000 in
theorem refQ_any (A:Option Addr) (rs:List (List UInt8)) (n cp:Nat) (w:World) (hn:rs.length=n) (hr:RdR w w.heap.size A rs) :
    Calls Tryz.prog 50 #[.slice A n cp] w fun e w'=>∃ v,e=.returned v∧OwB 5 w' w.heap.size v (qB rs)∧Below w.heap.size w w':=by
 have C:=Lib.hid (alike_any A rs n cp w hn hr)
 subst hn
 have hm:=hr.1
 by_cases h0:alikeB rs=true
 ·obtain ⟨hp,hall⟩:=alikeB_iff.1 h0
  have Hs:Hid (qB rs=foldG gQ 0 (zeroL (rs.getD 0 []).length) rs):=if_pos h0
  rw [h0] at C
  clear h0
  have Hall:=Lib.hid hall
  obtain ⟨b,off,rfl,hbb,hc⟩:=hr.2 hp
  have Hc:=Lib.hid hc
  obtain ⟨A0,c0,k0,r0⟩:=hc 0 hp
  have hN:=r0.1
  rw [Nat.add_zero] at k0
  have i0:(0:Int) < (rs.length:Int):=by omega
  have Hf:=Lib.hid (foldG_snoc gQ (zeroL (rs.getD 0 []).length) rs)
  have Hl:=Lib.hid (foldG_take_len gQ_len (z:=zeroL (rs.getD 0 []).length) (fun k hk=>(hall k hk).trans (zeroL_len _).symm))
  rw [zeroL_len] at Hl
  have own0:=own_make 5 w (rs.getD 0 []).length hN
  have km:=make_bytes (rs.getD 0 []).length hN
  rw [show List.replicate (rs.getD 0 []).length (0:UInt8)=zeroL (rs.getD 0 []).length from rfl] at own0
  clear hc hall hr r0
  generalize (rs.getD 0 []).length=N at Hs Hall k0 hN Hf Hl own0 km
  generalize zeroL N=zs at Hs Hf Hl own0
  go_enter Tryz.func50,Tryz.ntmps50
  go_wp2_with fail
  refine C.out.mono ?_
  rintro e w1 ⟨rfl,rfl⟩
  go_wp2
  go_loopw [19] (fun i wr=>∃ k:Nat,k ≤ rs.length∧i=.int .i64 k∧OwB 5 wr w1.heap.size (.slice (some ⟨w1.heap.size,0,none⟩) N N) (foldG gQ 0 zs (rs.take k))∧Below w1.heap.size w1 wr) (fun i _=>rs.length - (intOf i).toNat)
  case atStart=>exact ⟨0,Nat.zero_le _,rfl,own0,below1 _ _⟩
  case round =>
   obtain ⟨k,hk,rfl,hown,hbr⟩:=hrel
   have Hy:=Lib.hid (Hl.out k)
   by_cases hlt:k < rs.length
   ·obtain ⟨A',c',h1,h2⟩:=Hc.out k hlt
    have Hsn:=Lib.hid (show foldG gQ 0 zs (rs.take (k + 1))=xorL (foldG gQ 0 zs (rs.take k)) (scaleL (rs.getD k []) (gpow (k:Int))) from Hf.out k hlt)
    have hln:=Hall.out k hlt
    rw [hln] at h1
    have Hln:=Lib.hid hln
    clear hln
    rw [← hbr.cell (p:=⟨b,off + k,none⟩) hbb] at h1
    generalize rs.getD k []=row at h1 h2 Hsn Hln
    generalize foldG gQ 0 zs (rs.take k)=y at hown Hsn Hy
    have hlen:=h2.1
    have CP:=Lib.hid (fun W=>refPow_any (k:Int) (by omega) W)
    have hfp:=gpow_lt (k:Int)
    generalize gpow (k:Int)=f at CP Hsn hfp
    go_wp2_with fail
    refine (CP.out _).mono ?_
    rintro e w2 ⟨rfl,rfl⟩
    go_wp2
    go_loopw [28] (fun i wr=>∃ j:Nat,j ≤ N∧i=.int .i64 j∧OwB 5 wr w1.heap.size (.slice (some ⟨w1.heap.size,0,none⟩) N N) (xorTo y (scaleL row f) j)∧Below w1.heap.size w1 wr) (fun i _=>N - (intOf i).toNat)
    case atStart=>exact ⟨0,Nat.zero_le _,rfl,by rw [xorTo_zero];exact hown,hbr⟩
    case round =>
     obtain ⟨j,hj,rfl,hown2,hbr2⟩:=hrel
     have Hry:=Lib.hid (show (scaleL row f).length=y.length from (scaleL_len _ _).trans (Hln.out.trans Hy.out.symm))
     by_cases hlt2:j < N
     ·obtain ⟨b2,off2,rfl,hb2,hc2⟩:=h2.2 (by have:=Hln.out;omega)
      have h3:=hc2 j (by have:=Hln.out;omega)
      rw [← hbr2.cell (p:=⟨b2,off2 + j,none⟩) hb2] at h3
      have hown3:=hown2.drewI
      have hbr3:=hbr2.drew
      obtain ⟨h4,h5⟩:=hown3.cell ((xorTo_len Hry.out (by have:=Hy.out;omega)).trans Hy.out) j hlt2
      rw [xorTo_get Hry.out (by have:=Hy.out;omega)] at h4
      have Hset:=Lib.hid (hown3.set ((xorTo_len Hry.out (by have:=Hy.out;omega)).trans Hy.out) j (y.getD j 0 ^^^ (scaleL row f).getD j 0)).1
      have Hx:=Lib.hid (xorTo_succ Hry.out (show j < y.length by have:=Hy.out;omega))
      rw [scaleL_get] at Hset Hx
      have i0:(0:Int) ≤ (j:Int):=by omega
      have i1:(j:Int) < (N:Int):=by omega
      generalize row.getD j 0=c at h3 Hset Hx
      have CM:=Lib.hid (fun W=>refMul_u8 c f hfp W)
      generalize mulU c f=m at CM Hset Hx
      have ex:=xor_u8 (y.getD j 0) m
      generalize y.getD j 0=d at h4 Hset Hx ex
      generalize d ^^^ m=dc at Hset Hx ex
      clear hc2
      go_wp2_with fail
      refine wp_region_still_tail 9 (by kernel_rfl) (by kernel_rfl) ?_
      simp only [List.take_succ_cons,List.take_zero,List.drop_succ_cons,List.drop_zero]
      change wpStill _ _ wr.drew _ _ _
      generalize hwd:wr.drew=wd at h4 h5 Hset hbr3 hown3 ⊢
      have Hwd:=Lib.hid hwd
      clear hwd
      repeat (first | still_step | (still_call (CM.out _)))
      refine wpStill_nil ?_
      change wpList _ _ _ _ _ wr.drew
      rw [Hwd.out]
      go_wp2
      go_roundw
      case rel=>exact ⟨j + 1,by omega,by go_num,by rw [← Hx.out];exact Hset.out,hbr3.setCell (p:=⟨w1.heap.size,j,none⟩) (Nat.le_refl _) _⟩
      case measure=>simp [intOf];omega
     ·obtain rfl:j=N:=by omega
      have Hxa:=Lib.hid (show xorTo y (scaleL row f) j=xorL y (scaleL row f) by rw [← Hy.out];exact xorTo_all Hry.out)
      rw [Hxa.out] at hown2
      go_wp2
      go_roundw
      case rel=>exact ⟨k + 1,by omega,by go_num,by rw [Hsn.out];exact hown2,hbr2⟩
      case measure=>simp [intOf];omega
   ·obtain rfl:k=rs.length:=by omega
    have Hall2:=Lib.hid (show foldG gQ 0 zs (rs.take rs.length)=qB rs by rw [List.take_length];exact Hs.out.symm)
    rw [Hall2.out] at hown
    go_wp2
    go_ret
    exact ⟨_,rfl,hown,hbr⟩
 ·have hz:alikeB rs=false:=by simpa using h0
  have Hp:Hid (qB rs=[]):=if_neg h0
  rw [hz] at C
  clear hz h0
  go_enter Tryz.func50,Tryz.ntmps50
  go_wp2_with fail
  refine C.out.mono ?_
  rintro e w1 ⟨rfl,rfl⟩
  go_wp2
  go_ret
  exact ⟨_,rfl,nil_own _ _ Hp.out,Below.refl _ _⟩
end Go.Proofs.YtldfoadildaljaaGreat
end
section
set_option linter.unusedVariables false
set_option linter.unusedSimpArgs false
namespace Go.Proofs.YtldfoadildaljaaGreat
open Go.RowKit
theorem of_any (l d c n:Int) (w:World) (hl:(-9223372036854775808 ≤ l∧l ≤ 9223372036854775807)) (hd:(-9223372036854775808 ≤ d∧d ≤ 9223372036854775807)) (hc:(-9223372036854775808 ≤ c∧c ≤ 9223372036854775807)) (hn:(-9223372036854775808 ≤ n∧n ≤ 9223372036854775807)) :
    Calls Tryz.prog 79 #[.agg #[.int .i64 l,.int .i64 d,.int .i64 c],.int .i64 n] w fun e w'=>e=.returned (.tuple #[.int .i64 (plOfD l d c n),.int .i64 (plOfR l d c n),.bool (plOfOk l d c n)])∧Below w.heap.size w w':=by
 have G:=gat_new w l d c 25 (0,0)
 have HD:Hid (∀ b,plOfOk l d c n=b→plOfD l d c n=if b=true then plD l d c (plRow l d c n) (n / c % (d - (l - 4))) else 0):=Lib.hid (fun b h=>by subst h;rfl)
 have HR:Hid (∀ b,plOfOk l d c n=b→plOfR l d c n=if b=true then plRow l d c n else 0):=Lib.hid (fun b h=>by subst h;rfl)
 have HC:=Lib.hid (fun W=>capacity_any l d c W hl hd hc)
 have hb7:=gCap_bd l d c
 by_cases h0:n < 0
 ·have H:=Lib.hid (plOfOk_no (l:=l) (d:=d) (c:=c) (n:=n) (by omega))
  have H1:=Lib.hid ((HD.out false H.out).trans (if_neg (by decide)))
  have H2:=Lib.hid ((HR.out false H.out).trans (if_neg (by decide)))
  have e0:decide (n < 0)=true:=decide_eq_true h0
  go_enter Tryz.func79,Tryz.ntmps79
  go_wp2_with fail
  go_ret3
  exact ⟨by rw [H.out,H1.out,H2.out];rfl,below1 _ _⟩
 ·have e0:decide (n < 0)=false:=decide_eq_false h0
  by_cases h1:gCap l d c ≤ n
  ·have H:=Lib.hid (plOfOk_no (l:=l) (d:=d) (c:=c) (n:=n) (by omega))
   have H1:=Lib.hid ((HD.out false H.out).trans (if_neg (by decide)))
   have H2:=Lib.hid ((HR.out false H.out).trans (if_neg (by decide)))
   clear HD HR
   generalize gCap l d c=cp at HC h1 hb7
   have e1:decide (cp ≤ n)=true:=decide_eq_true h1
   go_enter Tryz.func79,Tryz.ntmps79
   go_wp2_with fail
   (with_reducible refine (HC.out _).mono ?_);rintro e w1 ⟨rfl,hb⟩
   have F:=(below1 w _).trans (hb.mono (by simp))
   clear hb
   go_wp2_with fail
   go_ret3
   exact ⟨by rw [H.out,H1.out,H2.out];rfl,F⟩
  ·have hok:plOfOk l d c n=true:=decide_eq_true (by omega)
   have H:=Lib.hid hok
   have hg:=plOfOk_ok hok
   have hb6:=gOk_bd hg
   have hcp:=gCap_yes hg
   have hgw:=gWid_yes hg
   have H1:=Lib.hid ((HD.out true hok).trans (if_pos rfl))
   have H2:=Lib.hid ((HR.out true hok).trans (if_pos rfl))
   have HW:=Lib.hid (fun W=>width_any l d c W hl hd hc)
   have hw:=gWid_bd l d c
   rw [← hgw] at H1
   have H3:Hid (plRow l d c n=n / c / gWid l d c * c + n % c):=by rw [hgw];rfl
   generalize plRow l d c n=row at H1 H2 H3
   have hcw:gCap l d c=gWid l d c * 16:=rfl
   generalize gWid l d c=wd at HW hw H1 H3 hgw hcw
   rw [hcw] at HC h1 hb7
   have hch:=quo_bd 112 (show 0 ≤ n by omega) (show n < 112 by omega) (show 1 ≤ c by omega)
   have e1:decide (wd * 16 ≤ n)=false:=decide_eq_false h1
   generalize hqq:n / c=ch at H1 H3 hch
   have hst:=quo_bd 112 hch.1 hch.2 (show 1 ≤ wd by omega)
   have hk:=rem_bd ch (show 1 ≤ wd by omega)
   have hm:=rem_bd n (show 1 ≤ c by omega)
   have t1:n.tdiv c=ch:=by rw [Int.tdiv_eq_ediv_of_nonneg (by omega)];exact hqq
   have hx:0 ≤ ch / wd * c∧ch / wd * c ≤ 112 * 4:=⟨Int.mul_nonneg hst.1 (by omega),Int.mul_le_mul (by omega) (by omega) (by omega) (by omega)⟩
   have hrow:0 ≤ row∧row ≤ 1000:=by rw [H3.out];omega
   have HK:=Lib.hid (fun W=>disk_any l d c row (ch % wd) W hl hd hc (by omega) (by omega))
   have n1:¬ c=0:=by omega
   have n2:¬ wd=0:=by omega
   have i0:0 ≤ n:=by omega
   have z0:IntKind.i64.wrap ch=ch:=IntWalk.i64_in _ (by omega)
   clear hqq HD HR hok hg hcp h0 h1 hgw hcw
   go_enter Tryz.func79,Tryz.ntmps79
   go_wp2_with fail
   (with_reducible refine (HC.out _).mono ?_);rintro e w1 ⟨rfl,hb⟩
   have S1:=GS.later (w0:=w) (B:=w.heap.size) ⟨G.1,G.2.1,G.2.2,below1 w _⟩ hb
   clear hb G
   obtain ⟨g1,g2,g3,F⟩:=S1
   go_wp2_with fail
   have S0:GS w w.heap.size w.heap.size l d c w1:=⟨g1,g2,g3,F⟩
   clear g1 g2 g3 F
   go_region_held3 (GS w w.heap.size w.heap.size l d c)
    (first | assumption | exact GS.drew ‹_›)
    ((go_at_call 78;(with_reducible refine (HW.out _).mono ?_);rintro e w2 ⟨rfl,hb⟩;have S2:=(GS.drew S0).later hb))
   obtain ⟨g1,g2,g3,F⟩:=S2
   clear S0 hb
   go_wp2_with fail
   go_quiet (fail)
   go_wp2_with fail
   rw [← H3.out]
   have S0:GS w w.heap.size w.heap.size l d c (w2.drewN nq):=⟨g1,g2,g3,F.trans (belowN _ _ _)⟩
   have t2:ch.tmod wd=ch % wd:=Int.tmod_eq_emod_of_nonneg hch.1
   clear g1 g2 g3 F
   generalize w2.drewN nq=w4 at S0 ⊢
   clear H3
   go_region_held3 (GS w w.heap.size w.heap.size l d c)
    (first | assumption | exact GS.drew ‹_›)
    ((go_at_call 85;(with_reducible refine (HK.out _).mono ?_);rintro e w3 ⟨rfl,hb⟩;have S3:=(GS.drew S0).later hb))
   go_wp2
   go_ret3
   exact ⟨by rw [H.out,H1.out,H2.out];rfl,S3.2.2.2⟩
end Go.Proofs.YtldfoadildaljaaGreat
end
section
set_option linter.unusedVariables false
set_option linter.unusedSimpArgs false
namespace Go.Proofs.YtldfoadildaljaaGreat
open Go.RowKit
def plNumsTo (l d c r:Int) (n k:Nat):List Int:=(List.range k).map (fun j:Nat=>plN l d c r (j:Int)) ++ List.replicate (n - k) 0
theorem plNumsTo_len (l d c r:Int) {n k:Nat} (h:k ≤ n):(plNumsTo l d c r n k).length=n:=by simp [plNumsTo];omega
theorem plNumsTo_zero (l d c r:Int) (n:Nat):plNumsTo l d c r n 0=List.replicate n 0:=by simp [plNumsTo]
theorem plNumsTo_succ (l d c r:Int) {n k:Nat} (h:k < n):(plNumsTo l d c r n k).set k (plN l d c r (k:Int))=plNumsTo l d c r n (k + 1):=by
 unfold plNumsTo
 rw [List.set_append_right _ _ (by simp),show n - k=(n - (k + 1)) + 1 by omega,List.replicate_succ,List.length_map,List.length_range,Nat.sub_self,List.set_cons_zero,List.range_succ,List.map_append,List.append_assoc]
 rfl
theorem plNumsTo_all {l d c r:Int} {n:Nat} (h:plOk l d c r=true) (hn:gWid l d c=n):plNumsTo l d c r n n=plNums l d c r:=by
 have hg:=(plOk_yes h).1
 rw [gWid_yes hg] at hn
 unfold plNums plNumsTo
 rw [if_pos h,hn]
 simp
theorem plNums_no {l d c r:Int} (h:plOk l d c r=false):plNums l d c r=[]:=if_neg (by rw [h];decide)
theorem plNums_len {l d c r:Int} (h:plOk l d c r=true):(plNums l d c r).length=(gWid l d c).toNat:=by
 have hg:=(plOk_yes h).1
 rw [gWid_yes hg]
 unfold plNums
 rw [if_pos h]
 simp
theorem plNums_get {l d c r:Int} (h:plOk l d c r=true) {k:Nat} (hk:(k:Int) < gWid l d c):(plNums l d c r).getD k 0=plN l d c r (k:Int):=by
 have hg:=(plOk_yes h).1
 rw [gWid_yes hg] at hk
 unfold plNums
 rw [if_pos h]
 have:k < (d - (l - 4)).toNat:=by omega
 simp [this]
theorem GS.set {w0 W:World} {B b:Nat} {l d c:Int} (h:GS w0 B b l d c W) {p:Addr} (hp:B ≤ p.block) (hne:p.block ≠ b) (u:Value):GS w0 B b l d c (W.setCell p u) :=
 ⟨(World.cell?_setCell_far _ _ _ _ hne).trans h.1,(World.cell?_setCell_far _ _ _ _ hne).trans h.2.1,(World.cell?_setCell_far _ _ _ _ hne).trans h.2.2.1,h.2.2.2.setCell hp u⟩
set_option maxHeartbeats 800000 in
theorem numbers_own (l d c r:Int) (w:World) (HT:Hid (plOk l d c r=true)) (hl:(-9223372036854775808 ≤ l∧l ≤ 9223372036854775807)) (hd:(-9223372036854775808 ≤ d∧d ≤ 9223372036854775807)) (hc:(-9223372036854775808 ≤ c∧c ≤ 9223372036854775807)) (hr:(-9223372036854775808 ≤ r∧r ≤ 9223372036854775807)) :
    Calls Tryz.prog 67 #[.agg #[.int .i64 l,.int .i64 d,.int .i64 c],.int .i64 r] w fun e w'=>∃ v,e=.returned v∧OwJ w' w.heap.size v (plNums l d c r)∧Below w.heap.size w w':=by
 have G:=gat_new w l d c 25 (0,0)
 obtain ⟨hg,h0,h1⟩:=plOk_yes HT.out
 have HW:=Lib.hid (fun W=>width_any l d c W hl hd hc)
 have hw:=gWid_bd l d c
 obtain ⟨n,hn⟩:∃ n:Nat,gWid l d c=n:=⟨(gWid l d c).toNat,by omega⟩
 have Hall:=Lib.hid (plNumsTo_all HT.out hn)
 have HN:Hid (∀ (k:Nat) W,k < n→Calls Tryz.prog 95 #[.agg #[.int .i64 l,.int .i64 d,.int .i64 c],.int .i64 r,.int .i64 (k:Int)] W fun e w'=>e=.returned (.int .i64 (plN l d c r (k:Int)))∧Below W.heap.size W w') :=
  Lib.hid (fun k W hk=>number_any l d c r (k:Int) W HT (by omega) hl hd hc hr)
 rw [hn] at HW hw
 have hn8:n ≤ 1000000:=by omega
 have km:=make_ints n hn8
 clear hn hg
 go_enter Tryz.func67,Tryz.ntmps67
 go_wp2_with fail
 (with_reducible refine (there_yes l d c r _ HT hl hd hc hr).mono ?_);rintro e w1 ⟨rfl,hb⟩
 have S1:=GS.later (w0:=w) (B:=w.heap.size) ⟨G.1,G.2.1,G.2.2,below1 w _⟩ hb
 clear hb G
 obtain ⟨g1,g2,g3,F⟩:=S1
 go_wp2_with fail
 (with_reducible refine (HW.out _).mono ?_);rintro e w2 ⟨rfl,hb⟩
 have S2:=GS.later (w0:=w) (B:=w.heap.size) ⟨g1,g2,g3,F⟩ hb
 clear hb g1 g2 g3 F
 have own0:=ownJ_make w2 n hn8
 have S3:=S2.later (below1 w2 (.cells (madeCells #[.int .i64 0] n) 3))
 have z2:=S2.2.2.2.size
 have b2:=World.block_lt_of_cell? _ _ S2.1
 clear S2
 rw [← plNumsTo_zero l d c r n] at own0
 go_wp2_with fail
 generalize w2.heap.size=g at own0 S3 z2 b2 ⊢
 generalize w2.alloc (.cells (madeCells #[.int .i64 0] n) 3)=w3 at own0 S3 ⊢
 go_loopw [16] (fun i wr=>∃ k:Nat,k ≤ n∧i=.int .i64 k∧OwJ wr g (.slice (some ⟨g,0,none⟩) n n) (plNumsTo l d c r n k)∧GS w w.heap.size w.heap.size l d c wr) (fun i _=>n - (intOf i).toNat)
 case atStart=>exact ⟨0,Nat.zero_le _,rfl,own0,S3⟩
 case round =>
  obtain ⟨k,hk,rfl,hown,hS⟩:=hrel
  by_cases hlt:k < n
  ·have i0:(0:Int) ≤ (k:Int):=by omega
   have i1:(k:Int) < (n:Int):=by omega
   obtain ⟨g1,g2,g3,F⟩:=hS
   go_wp2_with fail
   (with_reducible refine (HN.out k _ hlt).mono ?_);rintro e w4 ⟨rfl,hb⟩
   have S4:=GS.later (w0:=w) (B:=w.heap.size) ⟨g1,g2,g3,F⟩ hb
   have hown4:=hown.below hb
   obtain ⟨c4,f4⟩:=hown4.cellF (plNumsTo_len l d c r hk).symm k hlt
   have hown5:=hown4.set (plNumsTo_len l d c r hk).symm k (plN l d c r (k:Int))
   rw [plNumsTo_succ l d c r hlt] at hown5
   have S5:=S4.set (p:=⟨g,k,none⟩) (by show w.heap.size ≤ g;omega) (by show g ≠ w.heap.size;omega) (.int .i64 (plN l d c r (k:Int)))
   clear hb g1 g2 g3 F hown S4 hown4
   go_wp2
   go_roundw
   case rel=>exact ⟨k + 1,by omega,by go_num,hown5,S5⟩
   case measure=>simp [intOf];omega
  ·obtain rfl:k=n:=by omega
   rw [Hall.out] at hown
   go_wp2
   go_ret
   exact ⟨_,rfl,hown.le (by omega),hS.2.2.2⟩
theorem numbers_any (l d c r:Int) (w:World) (hl:(-9223372036854775808 ≤ l∧l ≤ 9223372036854775807)) (hd:(-9223372036854775808 ≤ d∧d ≤ 9223372036854775807)) (hc:(-9223372036854775808 ≤ c∧c ≤ 9223372036854775807)) (hr:(-9223372036854775808 ≤ r∧r ≤ 9223372036854775807)) :
    Calls Tryz.prog 67 #[.agg #[.int .i64 l,.int .i64 d,.int .i64 c],.int .i64 r] w fun e w'=>∃ A cp,e=.returned (.slice A (plNums l d c r).length cp)∧RdJ w' w'.heap.size A (plNums l d c r)∧Below w.heap.size w w':=by
 cases hT:plOk l d c r
 ·have H:=Lib.hid (plNums_no hT)
  have HT:=Lib.hid hT
  clear hT
  go_enter Tryz.func67,Tryz.ntmps67
  go_wp2_with fail
  (with_reducible refine (there_no l d c r _ HT hl hd hc hr).mono ?_);rintro e w1 ⟨rfl,hb⟩
  have F:=(below1 w _).trans (hb.mono (by simp))
  clear hb
  go_wp2_with fail
  go_ret
  exact ⟨none,0,by rw [H.out];rfl,by rw [H.out];exact RdJ.nil _ _ _,F⟩
 ·refine (numbers_own l d c r w (Lib.hid hT) hl hd hc hr).mono ?_
  rintro e w' ⟨v,rfl,ho,hb⟩
  have hw:=gWid_bd l d c
  obtain ⟨A,cp,rfl,hr⟩:=ho.rd (by rw [plNums_len hT];omega)
  exact ⟨A,cp,rfl,hr,hb⟩
end Go.Proofs.YtldfoadildaljaaGreat
end
section
set_option linter.unusedVariables false
set_option linter.unusedSimpArgs false
namespace Go.Proofs.YtldfoadildaljaaGreat
open Go.RowKit
end Go.Proofs.YtldfoadildaljaaGreat
end
section
set_option linter.unusedVariables false
set_option linter.unusedSimpArgs false
namespace Go.Proofs.YtldfoadildaljaaGreat
def pnR (l d c l' d' c':Int):Int:=if gCan l d c l' d' c'=true then (if c ≤ c' then c' else c) else 0
def pnW (l d c l' d' c':Int):Int:=if gCan l d c l' d' c'=true then 16 / pnR l d c l' d' c' else 0
def pnN (l d c l' d' c':Int):Int:=pnR l d c l' d' c' * gWid l' d' c'
def pnSok (l d c l' d' c' k:Int):Bool:=decide (0 ≤ k∧k < pnW l d c l' d' c')
def pnF (l d c l' d' c' k:Int):Int:=if pnSok l d c l' d' c' k=true then k * pnN l d c l' d' c' else 0
def pnT (l d c l' d' c' k:Int):Int:=if pnSok l d c l' d' c' k=true then (k + 1) * pnN l d c l' d' c' else 0
structure Pn (l d c l' d' c' R K w w':Int):Prop where
 a:gOk l d c=true
 b:gOk l' d' c'=true
 r:R=1∨R=2∨R=4
 rc:c=1∧(R=1∨R=2∨R=4)∨c=2∧(R=2∨R=4)∨c=4∧R=4
 rc':c'=1∧(R=1∨R=2∨R=4)∨c'=2∧(R=2∨R=4)∨c'=4∧R=4
 rk:R=1∧K=16∨R=2∧K=8∨R=4∧K=4
 eR:pnR l d c l' d' c'=R
 eK:pnW l d c l' d' c'=K
 ew:d - (l - 4)=w
 ew':d' - (l' - 4)=w'
 wc:w=2∨w=3∨w=4∨w=5∨w=6∨w=7
 wc':w'=2∨w'=3∨w'=4∨w'=5∨w'=6∨w'=7
 le:w ≤ w'
 gw:gWid l d c=w
 gw':gWid l' d' c'=w'
theorem pn_of {l d c l' d' c':Int} (h:gCan l d c l' d' c'=true):∃ R K w w',Pn l d c l' d' c' R K w w':=by
 have h0:=h
 unfold gCan at h0
 simp only [Bool.and_eq_true] at h0
 obtain ⟨⟨⟨ha,hb⟩,_⟩,hge⟩:=h0
 have hle:gWid l d c ≤ gWid l' d' c':=by
  unfold gGe at hge
  exact (of_decide_eq_true hge).2.2
 have ha':=gOk_yes ha
 have hb':=gOk_yes hb
 have hw:=(wd_cases ha).1
 have hw':=(wd_cases hb).1
 have e1:=gWid_yes ha
 have e2:=gWid_yes hb
 have eR:pnR l d c l' d' c'=if c ≤ c' then c' else c:=if_pos h
 obtain ⟨R,hR⟩:∃ R,pnR l d c l' d' c'=R:=⟨_,rfl⟩
 have eK:pnW l d c l' d' c'=16 / R:=by unfold pnW;rw [if_pos h,hR]
 have hr:R=if c ≤ c' then c' else c:=hR.symm.trans eR
 have hc:=ha'.2.2
 have hc':=hb'.2.2
 have hr2:(c ≤ c'∧R=c')∨(c' < c∧R=c):=by
  by_cases q:c ≤ c'
  ·rw [if_pos q] at hr;exact .inl ⟨q,hr⟩
  ·rw [if_neg q] at hr;exact .inr ⟨by omega,hr⟩
 clear hr eR
 exact ⟨R,16 / R,d - (l - 4),d' - (l' - 4),ha,hb,by omega,by omega,by omega,by
  have:R=1∨R=2∨R=4:=by omega
  rcases this with rfl | rfl | rfl <;> simp,hR,eK,rfl,rfl,hw,hw',by omega,e1,e2⟩
section
variable {l d c l' d' c' R K w w':Int}
theorem Pn.rows (h:Pn l d c l' d' c' R K w w'):1 ≤ R∧R ≤ 4∧R * K=16∧R % c=0∧R % c'=0∧4 ≤ K∧K ≤ 16:=by
 have hc:=(gOk_yes h.a).2.2
 have hc':=(gOk_yes h.b).2.2
 have h1:=h.rc
 have h2:=h.rc'
 rcases h.rk with ⟨rfl,rfl⟩ | ⟨rfl,rfl⟩ | ⟨rfl,rfl⟩ <;> rcases hc with rfl | rfl | rfl <;> rcases hc' with rfl | rfl | rfl <;> omega
theorem Pn.n (h:Pn l d c l' d' c' R K w w'):pnN l d c l' d' c'=R * w':=by unfold pnN;rw [h.eR,h.gw']
theorem Pn.n_bd (h:Pn l d c l' d' c' R K w w'):2 ≤ R * w'∧R * w' ≤ 28∧R * w' * K=16 * w':=by
 rcases h.rk with ⟨rfl,rfl⟩ | ⟨rfl,rfl⟩ | ⟨rfl,rfl⟩ <;> rcases h.wc' with rfl | rfl | rfl | rfl | rfl | rfl <;> omega
theorem pn_num {wd c R k r j:Int} (hw:wd=2∨wd=3∨wd=4∨wd=5∨wd=6∨wd=7) (hc:c=1∧(R=1∨R=2∨R=4)∨c=2∧(R=2∨R=4)∨c=4∧R=4) (h0:k * R ≤ r) (h1:r < (k + 1) * R) (j0:0 ≤ j) (j1:j < wd) :
    k * (R * wd) ≤ (r / c * wd + j) * c + r % c∧(r / c * wd + j) * c + r % c < (k + 1) * (R * wd):=by
 rcases hc with ⟨rfl,rfl | rfl | rfl⟩ | ⟨rfl,rfl | rfl⟩ | ⟨rfl,rfl⟩ <;> rcases hw with rfl | rfl | rfl | rfl | rfl | rfl <;> omega
theorem pn_row {wd c R k n:Int} (hw:wd=2∨wd=3∨wd=4∨wd=5∨wd=6∨wd=7) (hc:c=1∧(R=1∨R=2∨R=4)∨c=2∧(R=2∨R=4)∨c=4∧R=4) (h0:0 ≤ n) (k0:0 ≤ k) :
    (n < k * (R * wd)→n / c / wd * c + n % c < k * R)∧(k * (R * wd) ≤ n→k * R ≤ n / c / wd * c + n % c):=by
 rcases hc with ⟨rfl,rfl | rfl | rfl⟩ | ⟨rfl,rfl | rfl⟩ | ⟨rfl,rfl⟩ <;> rcases hw with rfl | rfl | rfl | rfl | rfl | rfl <;> omega
theorem Pn.span (h:Pn l d c l' d' c' R K w w') {k r j:Int} (h0:k * R ≤ r) (h1:r < (k + 1) * R) (j0:0 ≤ j) (j1:j < w'):k * (R * w') ≤ plN l' d' c' r j∧plN l' d' c' r j < (k + 1) * (R * w'):=by
 unfold plN
 rw [h.ew']
 exact pn_num h.wc' h.rc' h0 h1 j0 j1
theorem Pn.covers (h:Pn l d c l' d' c' R K w w') {k n:Int} (k0:0 ≤ k) (n0:0 ≤ n):(n < k * (R * w')→plRow l' d' c' n < k * R)∧(k * (R * w') ≤ n→k * R ≤ plRow l d c n):=by
 refine ⟨fun hn=>?_,fun hn=>?_⟩
 ·unfold plRow
  rw [h.ew']
  exact (pn_row h.wc' h.rc' n0 k0).1 hn
 ·unfold plRow
  rw [h.ew]
  have hle:=h.le
  have h3:k * (R * w) ≤ k * (R * w'):=Int.mul_le_mul_of_nonneg_left (Int.mul_le_mul_of_nonneg_left hle (by have:=h.rows.1;omega)) (by omega)
  exact (pn_row h.wc h.rc n0 k0).2 (by omega)
end
end Go.Proofs.YtldfoadildaljaaGreat
end
section
set_option maxRecDepth 20000
set_option linter.unusedVariables false
set_option linter.unusedSimpArgs false
namespace Go.Proofs.YtldfoadildaljaaGreat
open Go.RowKit
def heldV (v:Value):Option (DataW Value × List MemPlace):=some (.held v,[])
def MapV (w:World) (B n:Nat) (F:Int→Option Value):Prop :=
 ∃ D:DataW Value,w.ownsMap Tryz.prog 3 heldV B n D∧∀ x:Int,Maps.has D (.int .i64 x)=(F x).isSome∧∀ v,F x=some v→∀ z,D.atKey (.int .i64 x) z=.held v
theorem mapV_zero {w:World} {B:Nat} (h:w.heap[B]?=some (.map #[] 0)):MapV w B 0 (fun _=>none) :=
 ⟨.map [],⟨#[],0,h,⟨by simp,Go.MapKept.stamped_empty 0,by simp⟩,Nat.le_refl _,rfl⟩,fun _=>⟨rfl,fun _ h=>by cases h⟩⟩
section
variable {w w':World} {B n:Nat} {F:Int→Option Value}
theorem MapV.obj (h:MapV w B n F):∃ o,w.heap[B]?=some o∧∀ V:World,V.heap[B]?=some o→MapV V B n F:=by
 obtain ⟨D,⟨es,clock,hb,r⟩,hr⟩:=h
 exact ⟨_,hb,fun V hV=>⟨D,⟨es,clock,hV,r⟩,hr⟩⟩
theorem MapV.store (h:MapV w B n F) (hn:n < 1000000) (x:Int) (v:Value) (hx:-9223372036854775808 ≤ x∧x ≤ 9223372036854775807) :
    ∃ w',(Instr.mapUpdate 56 (.map (some B)) (.int .i64 x) v).run Tryz.prog w=.ok () w'∧MapV w' B (n + 1) (putF F x v)∧w.grownBy w' (some B):=by
 obtain ⟨D,ho,hr⟩:=h
 obtain ⟨w',hrun,ho',hg⟩:=ho.update keyI Tryz.underlying56 (by unfold maxLen;omega) (keyI_of x (WalkArith.wf_i64 hx)) (show heldV v=some (.held v,[]) from rfl)
 refine ⟨w',hrun,⟨_,ho',fun z=>?_⟩,hg⟩
 unfold putF
 by_cases e:z=x
 ·subst e
  rw [if_pos rfl]
  exact ⟨Maps.has_put_same ho.isMap (keyLitI z) _,fun u hu q=>by injection hu with hu;subst hu;exact Maps.atKey_put_same ho.isMap (keyLitI z) _ _⟩
 ·rw [if_neg e]
  have hne:Lit.int .i64 z ≠ Lit.int .i64 x:=fun h=>e (lit_int_inj h)
  exact ⟨(Maps.has_put_other hne _).trans (hr z).1,fun u hu q=>(Maps.atKey_put_other hne _ _).trans ((hr z).2 u hu q)⟩
end
end Go.Proofs.YtldfoadildaljaaGreat
end
section
set_option linter.unusedVariables false
set_option linter.unusedSimpArgs false
namespace Go.Proofs.YtldfoadildaljaaGreat
open Go.RowKit
end Go.Proofs.YtldfoadildaljaaGreat
end
section
set_option linter.unusedVariables false
set_option linter.unusedSimpArgs false
namespace Go.Proofs.YtldfoadildaljaaGreat
open Go.RowKit
end Go.Proofs.YtldfoadildaljaaGreat
end
section
set_option linter.unusedVariables false
set_option linter.unusedSimpArgs false
namespace Go.Proofs.YtldfoadildaljaaGreat
open Go.RowKit
section
variable {w w':World} {lo:Nat} {ob ob':Option Nat} {xs ys:List Value} {rs qs:List (List UInt8)}
end
section
variable {e:TypeId} {w w':World} {B lo:Nat} {v:Value} {l:List It}
end
section
variable {P:Program} (w:World)
end
end Go.Proofs.YtldfoadildaljaaGreat
end
section
set_option maxRecDepth 20000
set_option linter.unusedVariables false
set_option linter.unusedSimpArgs false
namespace Go.Proofs.YtldfoadildaljaaGreat
open Go.RowKit
theorem pnR_no {l d c l' d' c':Int} (h:gCan l d c l' d' c'=false):pnR l d c l' d' c'=0:=if_neg (by rw [h];decide)
theorem pnW_no {l d c l' d' c':Int} (h:gCan l d c l' d' c'=false):pnW l d c l' d' c'=0:=if_neg (by rw [h];decide)
theorem pnR_yes {l d c l' d' c':Int} (h:gCan l d c l' d' c'=true):pnR l d c l' d' c'=if c < c' then c' else c:=by
 unfold pnR
 rw [if_pos h]
 by_cases q:c ≤ c'
 ·rw [if_pos q];split <;> omega
 ·rw [if_neg q,if_neg (by omega)]
theorem pnR_bd (l d c l' d' c':Int):0 ≤ pnR l d c l' d' c'∧pnR l d c l' d' c' ≤ 4:=by
 cases h:gCan l d c l' d' c'
 ·rw [pnR_no h];omega
 ·obtain ⟨R,K,w,w',P⟩:=pn_of h
  rw [P.eR];have:=P.r;omega
theorem pnW_bd (l d c l' d' c':Int):0 ≤ pnW l d c l' d' c'∧pnW l d c l' d' c' ≤ 16:=by
 cases h:gCan l d c l' d' c'
 ·rw [pnW_no h];omega
 ·obtain ⟨R,K,w,w',P⟩:=pn_of h
  rw [P.eK];have:=P.rk;omega
theorem pnN_no {l d c l' d' c':Int} (h:gCan l d c l' d' c'=false):pnN l d c l' d' c'=0:=by unfold pnN;rw [pnR_no h];omega
theorem pnN_bd (l d c l' d' c':Int):0 ≤ pnN l d c l' d' c'∧pnN l d c l' d' c' ≤ 28:=by
 cases h:gCan l d c l' d' c'
 ·rw [pnN_no h];omega
 ·obtain ⟨R,K,w,w',P⟩:=pn_of h
  rw [P.n];have:=P.n_bd;omega
theorem mul_bd28 {k n:Int} (h0:0 ≤ k) (h1:k ≤ 17) (n0:0 ≤ n) (n1:n ≤ 28):0 ≤ k * n∧k * n ≤ 476 :=
 ⟨Int.mul_nonneg h0 n0,Int.le_trans (Int.mul_le_mul_of_nonneg_right h1 n0) (by omega)⟩
theorem pnF_bd (l d c l' d' c' k:Int):0 ≤ pnF l d c l' d' c' k∧pnF l d c l' d' c' k ≤ 476:=by
 unfold pnF
 have h2:=pnN_bd l d c l' d' c'
 have h3:=pnW_bd l d c l' d' c'
 cases h:pnSok l d c l' d' c' k
 ·rw [if_neg (by decide)];omega
 ·rw [if_pos rfl]
  have h1:=of_decide_eq_true h
  exact mul_bd28 (by omega) (by omega) h2.1 h2.2
set_option maxHeartbeats 800000 in
theorem planRows_any (l d c l' d' c':Int) (w:World) (hl:(-9223372036854775808 ≤ l∧l ≤ 9223372036854775807)) (hd:(-9223372036854775808 ≤ d∧d ≤ 9223372036854775807)) (hc:(-9223372036854775808 ≤ c∧c ≤ 9223372036854775807)) (hl':(-9223372036854775808 ≤ l'∧l' ≤ 9223372036854775807)) (hd':(-9223372036854775808 ≤ d'∧d' ≤ 9223372036854775807)) (hc':(-9223372036854775808 ≤ c'∧c' ≤ 9223372036854775807)) :
    Calls Tryz.prog 35 #[.agg #[.int .i64 l,.int .i64 d,.int .i64 c],.agg #[.int .i64 l',.int .i64 d',.int .i64 c']] w fun e w'=>e=.returned (.int .i64 (pnR l d c l' d' c'))∧Below w.heap.size w w':=by
 have S0:=gs2_start w l d c l' d' c' 25 25 (0,0) (0,0)
 have HC:Hid (∀ W,Calls Tryz.prog 63 #[.agg #[.int .i64 l,.int .i64 d,.int .i64 c],.agg #[.int .i64 l',.int .i64 d',.int .i64 c']] W fun e w'=>e=.returned (.bool (gCan l d c l' d' c'))∧Below W.heap.size W w'):=Lib.hid fun W=>can_any l d c l' d' c' W hl hd hc hl' hd' hc'
 cases hC:gCan l d c l' d' c'
 ·have H:=Lib.hid (pnR_no hC)
  rw [hC] at HC
  clear hC
  go_enter Tryz.func35,Tryz.ntmps35
  go_wp2_with fail
  (with_reducible refine (HC.out _).mono ?_);rintro e w1 ⟨rfl,hb⟩
  have S1:=S0.later hb
  clear hb S0
  go_wp2_with fail
  go_ret
  exact ⟨by rw [H.out];rfl,S1.2.2.2.2.2.2⟩
 ·have H:=Lib.hid (pnR_yes hC)
  rw [hC] at HC
  clear hC
  by_cases q:c < c'
  ·have q1:decide (c < c')=true:=decide_eq_true q
   have H2:=Lib.hid (H.out.trans (if_pos q))
   go_enter Tryz.func35,Tryz.ntmps35
   go_wp2_with fail
   (with_reducible refine (HC.out _).mono ?_);rintro e w1 ⟨rfl,hb⟩
   have S1:=S0.later hb
   clear hb S0
   obtain ⟨g1,g2,g3,g4,g5,g6,F⟩:=S1
   go_wp2_with fail
   go_ret
   exact ⟨by rw [H2.out];rfl,F⟩
  ·have q1:decide (c < c')=false:=decide_eq_false q
   have H2:=Lib.hid (H.out.trans (if_neg q))
   go_enter Tryz.func35,Tryz.ntmps35
   go_wp2_with fail
   (with_reducible refine (HC.out _).mono ?_);rintro e w1 ⟨rfl,hb⟩
   have S1:=S0.later hb
   clear hb S0
   obtain ⟨g1,g2,g3,g4,g5,g6,F⟩:=S1
   go_wp2_with fail
   go_ret
   exact ⟨by rw [H2.out];rfl,F⟩
set_option maxHeartbeats 800000 in
theorem planWindows_any (l d c l' d' c':Int) (w:World) (hl:(-9223372036854775808 ≤ l∧l ≤ 9223372036854775807)) (hd:(-9223372036854775808 ≤ d∧d ≤ 9223372036854775807)) (hc:(-9223372036854775808 ≤ c∧c ≤ 9223372036854775807)) (hl':(-9223372036854775808 ≤ l'∧l' ≤ 9223372036854775807)) (hd':(-9223372036854775808 ≤ d'∧d' ≤ 9223372036854775807)) (hc':(-9223372036854775808 ≤ c'∧c' ≤ 9223372036854775807)) :
    Calls Tryz.prog 58 #[.agg #[.int .i64 l,.int .i64 d,.int .i64 c],.agg #[.int .i64 l',.int .i64 d',.int .i64 c']] w fun e w'=>e=.returned (.int .i64 (pnW l d c l' d' c'))∧Below w.heap.size w w':=by
 have S0:=gs2_start w l d c l' d' c' 25 25 (0,0) (0,0)
 have HC:Hid (∀ W,Calls Tryz.prog 35 #[.agg #[.int .i64 l,.int .i64 d,.int .i64 c],.agg #[.int .i64 l',.int .i64 d',.int .i64 c']] W fun e w'=>e=.returned (.int .i64 (pnR l d c l' d' c'))∧Below W.heap.size W w'):=Lib.hid fun W=>planRows_any l d c l' d' c' W hl hd hc hl' hd' hc'
 cases hC:gCan l d c l' d' c'
 ·have H:=Lib.hid (pnW_no hC)
  rw [pnR_no hC] at HC
  clear hC
  go_enter Tryz.func58,Tryz.ntmps58
  go_wp2_with fail
  (with_reducible refine (HC.out _).mono ?_);rintro e w1 ⟨rfl,hb⟩
  have S1:=S0.later hb
  clear hb S0
  go_wp2_with fail
  go_ret
  exact ⟨by rw [H.out];rfl,S1.2.2.2.2.2.2⟩
 ·obtain ⟨R,K,wd,wd',P⟩:=pn_of hC
  have H:=Lib.hid P.eK
  rw [P.eR] at HC
  rcases P.rk with ⟨rfl,rfl⟩ | ⟨rfl,rfl⟩ | ⟨rfl,rfl⟩
  all_goals
   clear hC P
   go_enter Tryz.func58,Tryz.ntmps58
   go_wp2_with fail
   (with_reducible refine (HC.out _).mono ?_);rintro e w1 ⟨rfl,hb⟩
   have S1:=S0.later hb
   clear hb S0
   go_wp2_with fail
   go_ret
   exact ⟨by rw [H.out];rfl,S1.2.2.2.2.2.2⟩
set_option maxHeartbeats 800000 in
theorem planSize_any (l d c l' d' c':Int) (w:World) (hl:(-9223372036854775808 ≤ l∧l ≤ 9223372036854775807)) (hd:(-9223372036854775808 ≤ d∧d ≤ 9223372036854775807)) (hc:(-9223372036854775808 ≤ c∧c ≤ 9223372036854775807)) (hl':(-9223372036854775808 ≤ l'∧l' ≤ 9223372036854775807)) (hd':(-9223372036854775808 ≤ d'∧d' ≤ 9223372036854775807)) (hc':(-9223372036854775808 ≤ c'∧c' ≤ 9223372036854775807)) :
    Calls Tryz.prog 59 #[.agg #[.int .i64 l,.int .i64 d,.int .i64 c],.agg #[.int .i64 l',.int .i64 d',.int .i64 c']] w fun e w'=>e=.returned (.int .i64 (pnN l d c l' d' c'))∧Below w.heap.size w w':=by
 have S0:=gs2_start w l d c l' d' c' 25 25 (0,0) (0,0)
 have HR:Hid (∀ W,Calls Tryz.prog 35 #[.agg #[.int .i64 l,.int .i64 d,.int .i64 c],.agg #[.int .i64 l',.int .i64 d',.int .i64 c']] W fun e w'=>e=.returned (.int .i64 (pnR l d c l' d' c'))∧Below W.heap.size W w'):=Lib.hid fun W=>planRows_any l d c l' d' c' W hl hd hc hl' hd' hc'
 have HW:Hid (∀ W,Calls Tryz.prog 78 #[.agg #[.int .i64 l',.int .i64 d',.int .i64 c']] W fun e w'=>e=.returned (.int .i64 (gWid l' d' c'))∧Below W.heap.size W w'):=Lib.hid fun W=>width_any l' d' c' W hl' hd' hc'
 have HN:Hid (pnN l d c l' d' c'=pnR l d c l' d' c' * gWid l' d' c'):=rfl
 have b1:=pnR_bd l d c l' d' c'
 have b2:=gWid_bd l' d' c'
 have b3:=pnN_bd l d c l' d' c'
 rw [HN.out] at b3 ⊢
 clear HN
 generalize pnR l d c l' d' c'=R at HR b1 b3
 generalize gWid l' d' c'=wd at HW b2 b3
 have hm:IntKind.i64.wrap (R * wd)=R * wd:=IntWalk.i64_in _ (by omega)
 go_enter Tryz.func59,Tryz.ntmps59
 go_wp2_with fail
 go_region_held3 (GS2 w w.heap.size w.heap.size (w.heap.size + 1) l d c l' d' c')
  (first | assumption | exact GS2.drew ‹_›)
  (first
   |(go_at_call 35;(with_reducible refine (HR.out _).mono ?_);rintro e wA ⟨rfl,hbA⟩;have SA:GS2 w w.heap.size w.heap.size (w.heap.size + 1) l d c l' d' c' wA:=GS2.later (by first | assumption | exact GS2.drew ‹_›) hbA;clear hbA)
   |(go_at_call 78;(with_reducible refine (HW.out _).mono ?_);rintro e wB ⟨rfl,hbB⟩;have SB:GS2 w w.heap.size w.heap.size (w.heap.size + 1) l d c l' d' c' wB:=GS2.later (by first | assumption | exact GS2.drew ‹_›) hbB;clear hbB))
 all_goals
  go_wp2
  go_ret
  first
   | exact ⟨rfl,SA.2.2.2.2.2.2⟩
   | exact ⟨rfl,SB.2.2.2.2.2.2⟩
end Go.Proofs.YtldfoadildaljaaGreat
end
