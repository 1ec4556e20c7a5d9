/- Texts put together: RecFind, RecSame, RecChk, RecFld, RecHead. -/
import Derived.Test.YtenkkdnepmoihaaGreatDoorUcai
import Derived.Test.YtenkkdnepmoihaaGreatDoorUcac
import Derived.Test.YtenkkdnepmoihaaGreatDoorUcaa
import Derived.Test.YtenkkdnepmoihaaGreatDoorUcae
import Derived.Test.YtenkkdnepmoihaaGreatDoorUcag
import Derived.Test.YtenkkdnepmoihaaGreatDoorUcad
section
set_option maxRecDepth 8000
set_option linter.unusedVariables false
set_option linter.unusedSimpArgs false
namespace Go.Proofs.YtenkkdnepmoihaaGreatDoor
open Go.RowKit
theorem its_take {l:List It} {i:Nat} (hi:i < l.length):l.take (i + 1)=l.take i ++ [itN l i]:=by
 rw [List.take_succ_eq_append_getElem hi];simp [itN,hi]
set_option maxHeartbeats 800000 in
theorem idxI_any (A:Option Addr) (n c:Nat) (l:List It) (x:It) (D:Option Addr) (m cd:Nat) (w:World) (hn:l.length=n) (h:RdI w w.heap.size A l) :
    Calls Tryz.prog 129 #[.slice A n c,.func (.func 99) #[.agg #[.int .i64 x.d,.int .i64 x.a,.slice D m cd]] #[]] w fun e w'=>∃ r:Int,e=.returned (.int .i64 r)∧decide (0 ≤ r)=l.any (meetsB x)∧Below w.heap.size w w':=by
 subst hn
 have H:=Lib.hid h
 have hmx:=h.1
 clear h
 go_enter Tryz.func129,Tryz.ntmps129
 go_wp2
 go_loopw [8] (fun i wr=>∃ j:Nat,j ≤ l.length∧i=.int .i64 j∧(l.take j).any (meetsB x)=false∧Below w.heap.size w wr) (fun i _=>l.length - (intOf i).toNat)
 case atStart=>exact ⟨0,Nat.zero_le _,rfl,by simp,Below.refl _ _⟩
 case round =>
  obtain ⟨j,hj,rfl,hall,hbr⟩:=hrel
  have Hall:=Lib.hid hall
  clear hall
  by_cases hlt:j < l.length
  ·obtain ⟨g,rfl,hg,hc⟩:=(H.out.below hbr (Nat.le_refl _)).2 (by omega)
   obtain ⟨D',c',hrp,_⟩:=hc j hlt
   clear hc
   have Hts:=Lib.hid (its_take hlt)
   have Hm:=Lib.hid (itN_mem hlt)
   generalize itN l j=y at hrp Hts Hm
   have CL:=Lib.hid (meets_any x y D D' m cd y.b.length c' wr)
   have Hrp:=Lib.hid hrp
   have k0:(0:Int) ≤ (j:Int):=by omega
   have k1:(j:Int) < (l.length:Int):=by omega
   clear hrp
   cases hpk:meetsB x y with
   | true =>
     rw [hpk] at CL
     have Hpk:=Lib.hid hpk
     clear hpk
     go_wp2_with (first
      |((with_reducible refine (id ?_:wpList _ _ _ (⟨some 15,_,_,_,_,_⟩::_) _ _));refine wpList_load_mid rfl 92 _ (by rfl) g (j * 3) (by rfl) [.int .i64 y.d,.int .i64 y.a,.slice D' y.b.length c'] _ Hrp.out Tryz.underlying92 rfl (by kernel_rfl) ?_)
      |(go_at_call 99;refine CL.out.mono ?_;rintro e w1 ⟨rfl,hb1⟩))
     go_ret
     exact ⟨(j:Int),rfl,by rw [decide_eq_true (by omega)];exact (List.any_eq_true.2 ⟨y,Hm.out,Hpk.out⟩).symm,hbr.trans (hb1.mono hbr.size)⟩
   | false =>
     rw [hpk] at CL
     have Hpk:=Lib.hid hpk
     clear hpk
     go_wp2_with (first
      |((with_reducible refine (id ?_:wpList _ _ _ (⟨some 15,_,_,_,_,_⟩::_) _ _));refine wpList_load_mid rfl 92 _ (by rfl) g (j * 3) (by rfl) [.int .i64 y.d,.int .i64 y.a,.slice D' y.b.length c'] _ Hrp.out Tryz.underlying92 rfl (by kernel_rfl) ?_)
      |(go_at_call 99;refine CL.out.mono ?_;rintro e w1 ⟨rfl,hb1⟩))
     go_roundw
     case rel=>exact ⟨j + 1,by omega,by go_num,by rw [Hts.out,List.any_append,Hall.out];simpa using Hpk.out,hbr.trans (hb1.mono hbr.size)⟩
     case measure=>simp [intOf];omega
  ·obtain rfl:j=l.length:=by omega
   go_wp2
   go_ret
   exact ⟨-1,rfl,by have:=Hall.out;rw [List.take_length] at this;rw [this];decide,hbr⟩
theorem anyI_any (A:Option Addr) (n c:Nat) (l:List It) (x:It) (D:Option Addr) (m cd:Nat) (w:World) (hn:l.length=n) (h:RdI w w.heap.size A l) :
    Calls Tryz.prog 98 #[.slice A n c,.func (.func 99) #[.agg #[.int .i64 x.d,.int .i64 x.a,.slice D m cd]] #[]] w fun e w'=>e=.returned (.bool (l.any (meetsB x)))∧Below w.heap.size w w':=by
 have C:=Lib.hid (idxI_any A n c l x D m cd w hn h)
 clear h hn
 go_enter Tryz.func98,Tryz.ntmps98
 go_wp2_with fail
 refine C.out.mono ?_
 rintro e w1 ⟨r,rfl,hr,hb1⟩
 have Hr:=Lib.hid hr
 clear hr
 go_wp2
 go_ret
 exact ⟨by rw [← Hr.out];rfl,hb1⟩
def unl (b:List UInt8):Bool:=(b.length:Int) != 32
theorem rs_take {rs:List (List UInt8)} {i:Nat} (hi:i < rs.length):rs.take (i + 1)=rs.take i ++ [rs.getD i []]:=by
 rw [List.take_succ_eq_append_getElem hi];simp [hi]
theorem idxU_any (A:Option Addr) (n c:Nat) (rs:List (List UInt8)) (w:World) (hn:rs.length=n) (h:RdR w w.heap.size A rs) :
    Calls Tryz.prog 137 #[.slice A n c,.func (.func 111) #[] #[]] w fun e w'=>∃ r:Int,e=.returned (.int .i64 r)∧decide (0 ≤ r)=rs.any unl∧Below w.heap.size w w':=by
 subst hn
 have H:=Lib.hid h
 have hmx:=h.1
 clear h
 go_enter Tryz.func137,Tryz.ntmps137
 go_wp2
 go_loopw [8] (fun i wr=>∃ j:Nat,j ≤ rs.length∧i=.int .i64 j∧(rs.take j).any unl=false∧wr=w) (fun i _=>rs.length - (intOf i).toNat)
 case atStart=>exact ⟨0,Nat.zero_le _,rfl,by simp,rfl⟩
 case round =>
  obtain ⟨j,hj,rfl,hall,rfl⟩:=hrel
  have Hall:=Lib.hid hall
  clear hall
  by_cases hlt:j < rs.length
  ·obtain ⟨g,off,rfl,hg,hc⟩:=H.out.2 (by omega)
   obtain ⟨D',c',hrp,_⟩:=hc j hlt
   clear hc
   have Hts:=Lib.hid (rs_take hlt)
   have Hm:=Lib.hid (show rs.getD j [] ∈ rs by simp [hlt])
   have CL:=Lib.hid (unlike_any D' (rs.getD j []).length c' wr (unl (rs.getD j [])) rfl)
   generalize rs.getD j []=y at hrp Hts Hm CL
   have k0:(0:Int) ≤ (j:Int):=by omega
   have k1:(j:Int) < (rs.length:Int):=by omega
   generalize y.length=yl at hrp CL
   cases hpk:unl y with
   | true =>
     rw [hpk] at CL
     have Hpk:=Lib.hid hpk
     clear hpk
     go_wp2_with (go_at_call 111;refine CL.out.mono ?_;rintro e w1 ⟨rfl,rfl⟩)
     go_ret
     exact ⟨(j:Int),rfl,by rw [decide_eq_true (by omega)];exact (List.any_eq_true.2 ⟨y,Hm.out,Hpk.out⟩).symm,Below.refl _ _⟩
   | false =>
     rw [hpk] at CL
     have Hpk:=Lib.hid hpk
     clear hpk
     go_wp2_with (go_at_call 111;refine CL.out.mono ?_;rintro e w1 ⟨rfl,rfl⟩)
     go_roundw
     case rel=>exact ⟨j + 1,by omega,by go_num,by rw [Hts.out,List.any_append,Hall.out];simpa using Hpk.out,trivial⟩
     case measure=>simp [intOf];omega
  ·obtain rfl:j=rs.length:=by omega
   go_wp2
   go_ret
   exact ⟨-1,rfl,by have:=Hall.out;rw [List.take_length] at this;rw [this];decide,Below.refl _ _⟩
theorem anyU_any (A:Option Addr) (n c:Nat) (rs:List (List UInt8)) (w:World) (hn:rs.length=n) (h:RdR w w.heap.size A rs) :
    Calls Tryz.prog 110 #[.slice A n c,.func (.func 111) #[] #[]] w fun e w'=>e=.returned (.bool (rs.any unl))∧Below w.heap.size w w':=by
 have C:=Lib.hid (idxU_any A n c rs w hn h)
 clear h hn
 go_enter Tryz.func110,Tryz.ntmps110
 go_wp2_with fail
 refine C.out.mono ?_
 rintro e w1 ⟨r,rfl,hr,hb1⟩
 have Hr:=Lib.hid hr
 clear hr
 go_wp2
 go_ret
 exact ⟨by rw [← Hr.out];rfl,hb1⟩
end Go.Proofs.YtenkkdnepmoihaaGreatDoor
end
section
set_option maxRecDepth 8000
set_option linter.unusedVariables false
set_option linter.unusedSimpArgs false
namespace Go.Proofs.YtenkkdnepmoihaaGreatDoor
open Go.RowKit
instance itDec:DecidableEq It:=fun x y=>decidable_of_iff (x.d=y.d∧x.a=y.a∧x.b=y.b) ⟨fun h=>It.ext' h.1 h.2.1 h.2.2,fun h=>by subst h;exact ⟨rfl,rfl,rfl⟩⟩
theorem its_eq {l m:List It} (hl:l.length=m.length) (h:∀ k,k < l.length→itN l k=itN m k):l=m:=by
 apply List.ext_getElem hl
 intro k h1 h2
 have:=h k h1
 simpa [itN,List.getD_eq_getElem?_getD,h1,h2] using this
theorem same_below (A A':Option Addr) (n n' c c' B:Nat) (bs bs':List UInt8) (w:World) (hn:n=bs.length) (hn':n'=bs'.length) (hr:RdB w B A bs) (hr':RdB w B A' bs') :
    Calls Tryz.prog 19 #[.slice A n c,.slice A' n' c'] w fun e w'=>e=.returned (.bool (decide (bs=bs')))∧Below w.heap.size w w' :=
 (same_any A A' n n' c c' B bs bs' w hn hn' hr hr').mono fun e w' h=>by
  obtain ⟨h1,k,rfl⟩:=h
  exact ⟨h1,belowN _ _ _⟩
end Go.Proofs.YtenkkdnepmoihaaGreatDoor
end
section
set_option maxRecDepth 8000
set_option linter.unusedVariables false
set_option linter.unusedSimpArgs false
namespace Go.Proofs.YtenkkdnepmoihaaGreatDoor
open Go.RowKit
def CkS (w:World) (p q:Nat) (s:Int) (A:Option Addr) (n c:Nat) (x:It) (D:Option Addr) (m cd:Nat) (V:World):Prop :=
 V.cell? ⟨p,0,none⟩=some (.int .i64 s)∧V.cell? ⟨p,1,none⟩=some (.slice A n c)∧V.cell? ⟨q,0,none⟩=some (.int .i64 x.d)∧V.cell? ⟨q,1,none⟩=some (.int .i64 x.a)∧V.cell? ⟨q,2,none⟩=some (.slice D m cd)
  ∧ Below w.heap.size w V∧w.heap.size ≤ p∧w.heap.size ≤ q
theorem CkS.drew {w V:World} {p q:Nat} {s:Int} {A:Option Addr} {n c:Nat} {x:It} {D:Option Addr} {m cd:Nat} (h:CkS w p q s A n c x D m cd V):CkS w p q s A n c x D m cd V.drew :=
 ⟨h.1,h.2.1,h.2.2.1,h.2.2.2.1,h.2.2.2.2.1,h.2.2.2.2.2.1.drew,h.2.2.2.2.2.2⟩
theorem CkS.later {w V V':World} {p q:Nat} {s:Int} {A:Option Addr} {n c:Nat} {x:It} {D:Option Addr} {m cd:Nat} (h:CkS w p q s A n c x D m cd V) (hb:Below V.heap.size V V'):CkS w p q s A n c x D m cd V':=by
 obtain ⟨h0,h1,h2,h3,h4,h5,h6,h7⟩:=h
 have k:=fun (a:Addr) (u:Value) (e:V.cell? a=some u)=>(hb.cell (World.block_lt_of_cell? _ _ e)).trans e
 exact ⟨k _ _ h0,k _ _ h1,k _ _ h2,k _ _ h3,k _ _ h4,h5.trans (hb.mono h5.size),h6,h7⟩
theorem CkS.start {w W:World} {s:Int} {A:Option Addr} {n c:Nat} (x:It) (D:Option Addr) (m cd:Nat) (t:TypeId) (f:Nat × Nat) {p:Nat} (hp:w.heap.size ≤ p) (h0:W.cell? ⟨p,0,none⟩=some (.int .i64 s)) (h1:W.cell? ⟨p,1,none⟩=some (.slice A n c)) (hb:Below w.heap.size w W) :
    CkS w p W.heap.size s A n c x D m cd (W.alloc (.cells #[.int .i64 x.d,.int .i64 x.a,.slice D m cd] t f)):=by
 have k:=fun (a:Addr) (u:Value) (e:W.cell? a=some u) (ob:Obj)=>(World.cell?_alloc_lt W ob a (World.block_lt_of_cell? _ _ e)).trans e
 have c':=fun i=>cell_of_row _ _ i _ _ _ (heap_alloc_new W (.cells #[.int .i64 x.d,.int .i64 x.a,.slice D m cd] t f))
 exact ⟨k _ _ h0 _,k _ _ h1 _,c' 0,c' 1,c' 2,hb.alloc hb.size _,hp,hb.size⟩
theorem fine_succ {l:List It} {j:Nat} (h:fineN l j=true) (h1:mayB (itN l j)=true) (h2:(l.take j).any (meetsB (itN l j))=false) (hj:j < l.length):fineN l (j + 1)=true:=by
 rw [fineN_iff] at h ⊢
 intro k hk
 by_cases e:k=j
 ·subst e
  refine ⟨h1,fun i hi=>?_⟩
  have:=List.any_eq_false.1 h2 (itN l i) (by
   have hm:=itN_mem (l:=l.take k) (k:=i) (by simp;omega)
   rwa [itN_take hi] at hm)
  simpa using this
 ·exact h k (by omega)
theorem any_two {l:List It} {j:Nat} (h2:(l.take j).any (meetsB (itN l j))=true) (hj:j < l.length):∃ i,i < j∧meetsB (itN l j) (itN l i)=true:=by
 obtain ⟨x,hx,hm⟩:=List.any_eq_true.1 h2
 obtain ⟨i,hi,rfl⟩:=List.getElem_of_mem hx
 have hi':i < j∧i < l.length:=by simp at hi;omega
 refine ⟨i,hi'.1,?_⟩
 rw [show itN l i=(l.take j)[i] by simp [itN,hi'.2]]
 exact hm
set_option maxHeartbeats 2000000 in
theorem check_loop (A:Option Addr) (n c:Nat) (s:Int) (l:List It) (w:World) (hn:l.length=n) (hnc:n ≤ c) (hs:1 ≤ s∧s ≤ 2147483647∧l.length ≤ 3) (h:RdI w w.heap.size A l) (h64:Its64 l) :
    Calls Tryz.prog 64 #[.agg #[.int .i64 s,.slice A n c]] w fun e w'=>e=.returned (.int .i64 (recErr s l))∧Below w.heap.size w w':=by
 subst hn
 have H:=Lib.hid h
 have H64:=Lib.hid h64
 obtain ⟨hs1,hs2,hs3⟩:=hs
 have HE:=Lib.hid (show fineN l l.length=true→recErr s l=0 from fun q=>recErr_yes ((recOk_iff s l).2 ⟨⟨hs1,hs2,hs3⟩,q⟩))
 clear h h64
 go_enter Tryz.func64,Tryz.ntmps64
 go_wp2
 go_loopw [22] (fun i wr=>∃ j:Nat,j ≤ l.length∧i=.int .i64 j∧fineN l j=true∧Below w.heap.size w wr∧wr.cell? ⟨w.heap.size,0,none⟩=some (.int .i64 s)∧wr.cell? ⟨w.heap.size,1,none⟩=some (.slice A l.length c)) (fun i _=>l.length - (intOf i).toNat)
 case atStart =>
  have c':=fun i=>cell_of_row _ _ i _ _ _ (heap_alloc_new w (.cells #[.int .i64 s,.slice A l.length c] 43))
  exact ⟨0,Nat.zero_le _,rfl,by simp [fineN],below1 _ _,c' 0,c' 1⟩
 case round =>
  obtain ⟨j,hj,rfl,hall,hbr,hp0,hp1⟩:=hrel
  have Hall:=Lib.hid hall
  clear hall
  by_cases hlt:j < l.length
  ·obtain ⟨g,rfl,hg,hc⟩:=(H.out.below hbr (Nat.le_refl _)).2 (by omega)
   obtain ⟨D',c',hrp,_⟩:=hc j hlt
   clear hc
   have h64:=H64.out j hlt
   have CA:=Lib.hid fun V (hV:Below w.heap.size w V)=>anyI_any (some ⟨g,0,none⟩) j c (l.take j) (itN l j) D' (itN l j).b.length c' V (by simp;omega) (((H.out.take j).below hV (Nat.le_refl _)).more hV.size)
   have Hno:=Lib.hid (fun (q:mayB (itN l j)=false)=>recErr_no (s:=s) (recOk_at j hlt q))
   have Hme:=Lib.hid (fun (q:(l.take j).any (meetsB (itN l j))=true)=>by
    obtain ⟨i,hi,hm⟩:=any_two q hlt
    exact recErr_no (s:=s) (recOk_two j i hlt hi hm))
   have Hok:=Lib.hid (fun q1 q2=>fine_succ (l:=l) (j:=j) Hall.out q1 q2 hlt)
   have CM:=Lib.hid fun V=>may_any (itN l j) D' (itN l j).b.length c' V rfl h64
   clear h64
   generalize (l.take j).any (meetsB (itN l j))=me at CA Hme Hok
   generalize mayB (itN l j)=ma at CM Hno Hok
   generalize itN l j=y at hrp CA CM
   have Hrp:=Lib.hid hrp
   have S0:=CkS.start y D' y.b.length c' 92 (0,0) (Nat.le_refl _) hp0 hp1 hbr
   have k0:(0:Int) ≤ (j:Int):=by omega
   have k1:(j:Int) < (l.length:Int):=by omega
   have k2:(j:Int) ≤ (c:Int):=by omega
   clear hrp
   go_wp2_with (
       ((with_reducible refine (id ?_:wpList _ _ _ (⟨some 26,_,_,_,_,_⟩::_) _ _));refine wpList_load_mid rfl 92 _ (by rfl) g (j * 3) (by rfl) [.int .i64 y.d,.int .i64 y.a,.slice D' y.b.length c'] _ Hrp.out Tryz.underlying92 rfl (by kernel_rfl) ?_))
   go_name_world wz hwz
   rw [hwz] at S0
   clear hwz hbr hp0 hp1
   cases ma
   ·have RR:=Lib.hid (Hno.out rfl)
    clear Hok Hme CA
    refine wp_region_noPanic (region_ord 12 [] (fun V=>CkS w w.heap.size wr.heap.size s (some ⟨g,0,none⟩) l.length c y D' y.b.length c' V) (by kernel_rfl) (by kernel_rfl) (fun _ _ _ _ _ h=>h) fun R=>?_)
    change anyI _ _ _ _ _ _ 12 _ _ wz.drew
    have HS0:=Lib.hid (show (fun V=>CkS w w.heap.size wr.heap.size s (some ⟨g,0,none⟩) l.length c y D' y.b.length c' V) wz.drew from CkS.drew S0)
    refine' anyI_take R 0 rfl (v:=?_) (by kernel_rfl) (by rfl) (fun V hV=>?hy) HS0.out ?_
    case hy=>((try dsimp only at hV); obtain ⟨q0,q1,q2,q3,q4,q5,q6,q7⟩:=hV;go_simp;try with_reducible rfl)
    try simp only [Act.put,List.getElem_toArray,List.getElem_cons_succ,List.getElem_cons_zero,List.setIfInBounds_toArray,List.set_cons_zero,List.set_cons_succ]
    refine anyI_one 1 (by kernel_rfl) rfl ?_
    try simp only [List.getElem_toArray,List.getElem_cons_succ,List.getElem_cons_zero]
    refine opE_step ?_
    rw [if_pos (by rfl)]
    go_simp
    go_at_call 97
    refine (CM.out _).mono ?_
    rintro e w1 ⟨rfl,hb⟩
    replace HS0:=Lib.hid (CkS.later HS0.out hb)
    clear hb
    dsimp only
    refine ⟨HS0.out,?_⟩
    try simp only [Act.put,List.getElem_toArray,List.getElem_cons_succ,List.getElem_cons_zero,List.setIfInBounds_toArray,List.set_cons_zero,List.set_cons_succ]
    refine' anyI_take R 2 rfl (v:=?_) (by kernel_rfl) (by rfl) (fun V hV=>?hy) HS0.out ?_
    case hy=>((try dsimp only at hV); obtain ⟨q0,q1,q2,q3,q4,q5,q6,q7⟩:=hV;go_simp;try with_reducible rfl)
    try simp only [Act.put,List.getElem_toArray,List.getElem_cons_succ,List.getElem_cons_zero,List.setIfInBounds_toArray,List.set_cons_zero,List.set_cons_succ]
    refine' anyI_take R 3 rfl (v:=?_) (by kernel_rfl) (by rfl) (fun V hV=>?hy) HS0.out ?_
    case hy=>((try dsimp only at hV); obtain ⟨q0,q1,q2,q3,q4,q5,q6,q7⟩:=hV;go_simp;try with_reducible rfl)
    try simp only [Act.put,List.getElem_toArray,List.getElem_cons_succ,List.getElem_cons_zero,List.setIfInBounds_toArray,List.set_cons_zero,List.set_cons_succ]
    refine anyI_skip R 4 rfl (by kernel_rfl) (by rfl) HS0.out ?_
    try simp only [Act.put,List.getElem_toArray,List.getElem_cons_succ,List.getElem_cons_zero,List.setIfInBounds_toArray,List.set_cons_zero,List.set_cons_succ]
    refine anyI_skip R 5 rfl (by kernel_rfl) (by rfl) HS0.out ?_
    try simp only [Act.put,List.getElem_toArray,List.getElem_cons_succ,List.getElem_cons_zero,List.setIfInBounds_toArray,List.set_cons_zero,List.set_cons_succ]
    refine anyI_skip R 6 rfl (by kernel_rfl) (by rfl) HS0.out ?_
    try simp only [Act.put,List.getElem_toArray,List.getElem_cons_succ,List.getElem_cons_zero,List.setIfInBounds_toArray,List.set_cons_zero,List.set_cons_succ]
    refine anyI_skip R 7 rfl (by kernel_rfl) (by rfl) HS0.out ?_
    try simp only [Act.put,List.getElem_toArray,List.getElem_cons_succ,List.getElem_cons_zero,List.setIfInBounds_toArray,List.set_cons_zero,List.set_cons_succ]
    refine anyI_skip R 8 rfl (by kernel_rfl) (by rfl) HS0.out ?_
    try simp only [Act.put,List.getElem_toArray,List.getElem_cons_succ,List.getElem_cons_zero,List.setIfInBounds_toArray,List.set_cons_zero,List.set_cons_succ]
    refine anyI_skip R 9 rfl (by kernel_rfl) (by rfl) HS0.out ?_
    try simp only [Act.put,List.getElem_toArray,List.getElem_cons_succ,List.getElem_cons_zero,List.setIfInBounds_toArray,List.set_cons_zero,List.set_cons_succ]
    refine anyI_skip R 10 rfl (by kernel_rfl) (by rfl) HS0.out ?_
    try simp only [Act.put,List.getElem_toArray,List.getElem_cons_succ,List.getElem_cons_zero,List.setIfInBounds_toArray,List.set_cons_zero,List.set_cons_succ]
    refine' anyI_take R 11 rfl (v:=?_) (by kernel_rfl) (by rfl) (fun V hV=>?hy) HS0.out ?_
    case hy=>((try dsimp only at hV); obtain ⟨q0,q1,q2,q3,q4,q5,q6,q7⟩:=hV;go_simp;try with_reducible rfl)
    try simp only [Act.put,List.getElem_toArray,List.getElem_cons_succ,List.getElem_cons_zero,List.setIfInBounds_toArray,List.set_cons_zero,List.set_cons_succ]
    refine anyI_tail (by kernel_rfl) ?_
    try simp only [List.drop_succ_cons,List.drop_zero]
    clear R
    go_wp2_with fail
    refine NoPanic.normal ?_
    refine ‹∀ (a:Act) (w:World),Code.wp _ (Code.cond _ _ _) _ a w→_› _ _ ?_
    go_wp2_with fail
    go_ret
    exact ⟨by rw [RR.out];rfl,HS0.out.2.2.2.2.2.1⟩
   cases me
   ·have RR:=Lib.hid (Hok.out rfl rfl)
    clear Hok Hme Hno
    refine wp_region_noPanic (region_ord 12 [] (fun V=>CkS w w.heap.size wr.heap.size s (some ⟨g,0,none⟩) l.length c y D' y.b.length c' V) (by kernel_rfl) (by kernel_rfl) (fun _ _ _ _ _ h=>h) fun R=>?_)
    change anyI _ _ _ _ _ _ 12 _ _ wz.drew
    have HS0:=Lib.hid (show (fun V=>CkS w w.heap.size wr.heap.size s (some ⟨g,0,none⟩) l.length c y D' y.b.length c' V) wz.drew from CkS.drew S0)
    refine' anyI_take R 0 rfl (v:=?_) (by kernel_rfl) (by rfl) (fun V hV=>?hy) HS0.out ?_
    case hy=>((try dsimp only at hV); obtain ⟨q0,q1,q2,q3,q4,q5,q6,q7⟩:=hV;go_simp;try with_reducible rfl)
    try simp only [Act.put,List.getElem_toArray,List.getElem_cons_succ,List.getElem_cons_zero,List.setIfInBounds_toArray,List.set_cons_zero,List.set_cons_succ]
    refine anyI_one 1 (by kernel_rfl) rfl ?_
    try simp only [List.getElem_toArray,List.getElem_cons_succ,List.getElem_cons_zero]
    refine opE_step ?_
    rw [if_pos (by rfl)]
    go_simp
    go_at_call 97
    refine (CM.out _).mono ?_
    rintro e w1 ⟨rfl,hb⟩
    replace HS0:=Lib.hid (CkS.later HS0.out hb)
    clear hb
    dsimp only
    refine ⟨HS0.out,?_⟩
    try simp only [Act.put,List.getElem_toArray,List.getElem_cons_succ,List.getElem_cons_zero,List.setIfInBounds_toArray,List.set_cons_zero,List.set_cons_succ]
    refine' anyI_take R 2 rfl (v:=?_) (by kernel_rfl) (by rfl) (fun V hV=>?hy) HS0.out ?_
    case hy=>((try dsimp only at hV); obtain ⟨q0,q1,q2,q3,q4,q5,q6,q7⟩:=hV;go_simp;try with_reducible rfl)
    try simp only [Act.put,List.getElem_toArray,List.getElem_cons_succ,List.getElem_cons_zero,List.setIfInBounds_toArray,List.set_cons_zero,List.set_cons_succ]
    refine' anyI_take R 3 rfl (v:=?_) (by kernel_rfl) (by rfl) (fun V hV=>?hy) HS0.out ?_
    case hy=>((try dsimp only at hV); obtain ⟨q0,q1,q2,q3,q4,q5,q6,q7⟩:=hV;go_simp;try with_reducible rfl)
    try simp only [Act.put,List.getElem_toArray,List.getElem_cons_succ,List.getElem_cons_zero,List.setIfInBounds_toArray,List.set_cons_zero,List.set_cons_succ]
    refine' anyI_take R 4 rfl (v:=?_) (by kernel_rfl) (by rfl) (fun V hV=>?hy) HS0.out ?_
    case hy=>((try dsimp only at hV); obtain ⟨q0,q1,q2,q3,q4,q5,q6,q7⟩:=hV;go_simp;try with_reducible rfl)
    try simp only [Act.put,List.getElem_toArray,List.getElem_cons_succ,List.getElem_cons_zero,List.setIfInBounds_toArray,List.set_cons_zero,List.set_cons_succ]
    refine' anyI_take R 5 rfl (v:=?_) (by kernel_rfl) (by rfl) (fun V hV=>?hy) HS0.out ?_
    case hy=>((try dsimp only at hV); obtain ⟨q0,q1,q2,q3,q4,q5,q6,q7⟩:=hV;go_simp;try with_reducible rfl)
    try simp only [Act.put,List.getElem_toArray,List.getElem_cons_succ,List.getElem_cons_zero,List.setIfInBounds_toArray,List.set_cons_zero,List.set_cons_succ]
    refine' anyI_take R 6 rfl (v:=?_) (by kernel_rfl) (by rfl) (fun V hV=>?hy) HS0.out ?_
    case hy=>((try dsimp only at hV); obtain ⟨q0,q1,q2,q3,q4,q5,q6,q7⟩:=hV;go_simp;try with_reducible rfl)
    try simp only [Act.put,List.getElem_toArray,List.getElem_cons_succ,List.getElem_cons_zero,List.setIfInBounds_toArray,List.set_cons_zero,List.set_cons_succ]
    refine' anyI_take R 7 rfl (v:=?_) (by kernel_rfl) (by rfl) (fun V hV=>?hy) HS0.out ?_
    case hy=>((try dsimp only at hV); obtain ⟨q0,q1,q2,q3,q4,q5,q6,q7⟩:=hV;go_simp;try with_reducible rfl)
    try simp only [Act.put,List.getElem_toArray,List.getElem_cons_succ,List.getElem_cons_zero,List.setIfInBounds_toArray,List.set_cons_zero,List.set_cons_succ]
    refine' anyI_take R 8 rfl (v:=?_) (by kernel_rfl) (by rfl) (fun V hV=>?hy) HS0.out ?_
    case hy=>((try dsimp only at hV); obtain ⟨q0,q1,q2,q3,q4,q5,q6,q7⟩:=hV;go_simp;try with_reducible rfl)
    try simp only [Act.put,List.getElem_toArray,List.getElem_cons_succ,List.getElem_cons_zero,List.setIfInBounds_toArray,List.set_cons_zero,List.set_cons_succ]
    refine' anyI_take R 9 rfl (v:=?_) (by kernel_rfl) (by rfl) (fun V hV=>?hy) HS0.out ?_
    case hy=>((try dsimp only at hV); obtain ⟨q0,q1,q2,q3,q4,q5,q6,q7⟩:=hV;go_simp;try with_reducible rfl)
    try simp only [Act.put,List.getElem_toArray,List.getElem_cons_succ,List.getElem_cons_zero,List.setIfInBounds_toArray,List.set_cons_zero,List.set_cons_succ]
    refine anyI_one 10 (by kernel_rfl) rfl ?_
    try simp only [List.getElem_toArray,List.getElem_cons_succ,List.getElem_cons_zero]
    refine opE_step ?_
    rw [if_pos (by rfl)]
    go_simp
    go_at_call 98
    refine (CA.out _ HS0.out.2.2.2.2.2.1).mono ?_
    rintro e w2 ⟨rfl,hb⟩
    replace HS0:=Lib.hid (CkS.later HS0.out hb)
    clear hb
    dsimp only
    refine ⟨HS0.out,?_⟩
    try simp only [Act.put,List.getElem_toArray,List.getElem_cons_succ,List.getElem_cons_zero,List.setIfInBounds_toArray,List.set_cons_zero,List.set_cons_succ]
    refine' anyI_take R 11 rfl (v:=?_) (by kernel_rfl) (by rfl) (fun V hV=>?hy) HS0.out ?_
    case hy=>((try dsimp only at hV); obtain ⟨q0,q1,q2,q3,q4,q5,q6,q7⟩:=hV;go_simp;try with_reducible rfl)
    try simp only [Act.put,List.getElem_toArray,List.getElem_cons_succ,List.getElem_cons_zero,List.setIfInBounds_toArray,List.set_cons_zero,List.set_cons_succ]
    refine anyI_tail (by kernel_rfl) ?_
    try simp only [List.drop_succ_cons,List.drop_zero]
    clear R
    go_wp2_with fail
    refine NoPanic.normal ?_
    refine ‹∀ (a:Act) (w:World),Code.wp _ (Code.cond _ _ _) _ a w→_› _ _ ?_
    go_wp2_with fail
    go_roundw
    case rel=>exact ⟨j + 1,by omega,by go_num,RR.out,HS0.out.2.2.2.2.2.1,HS0.out.1,HS0.out.2.1⟩
    case measure=>simp [intOf];omega
   ·have RR:=Lib.hid (Hme.out rfl)
    clear Hok Hme Hno
    refine wp_region_noPanic (region_ord 12 [] (fun V=>CkS w w.heap.size wr.heap.size s (some ⟨g,0,none⟩) l.length c y D' y.b.length c' V) (by kernel_rfl) (by kernel_rfl) (fun _ _ _ _ _ h=>h) fun R=>?_)
    change anyI _ _ _ _ _ _ 12 _ _ wz.drew
    have HS0:=Lib.hid (show (fun V=>CkS w w.heap.size wr.heap.size s (some ⟨g,0,none⟩) l.length c y D' y.b.length c' V) wz.drew from CkS.drew S0)
    refine' anyI_take R 0 rfl (v:=?_) (by kernel_rfl) (by rfl) (fun V hV=>?hy) HS0.out ?_
    case hy=>((try dsimp only at hV); obtain ⟨q0,q1,q2,q3,q4,q5,q6,q7⟩:=hV;go_simp;try with_reducible rfl)
    try simp only [Act.put,List.getElem_toArray,List.getElem_cons_succ,List.getElem_cons_zero,List.setIfInBounds_toArray,List.set_cons_zero,List.set_cons_succ]
    refine anyI_one 1 (by kernel_rfl) rfl ?_
    try simp only [List.getElem_toArray,List.getElem_cons_succ,List.getElem_cons_zero]
    refine opE_step ?_
    rw [if_pos (by rfl)]
    go_simp
    go_at_call 97
    refine (CM.out _).mono ?_
    rintro e w1 ⟨rfl,hb⟩
    replace HS0:=Lib.hid (CkS.later HS0.out hb)
    clear hb
    dsimp only
    refine ⟨HS0.out,?_⟩
    try simp only [Act.put,List.getElem_toArray,List.getElem_cons_succ,List.getElem_cons_zero,List.setIfInBounds_toArray,List.set_cons_zero,List.set_cons_succ]
    refine' anyI_take R 2 rfl (v:=?_) (by kernel_rfl) (by rfl) (fun V hV=>?hy) HS0.out ?_
    case hy=>((try dsimp only at hV); obtain ⟨q0,q1,q2,q3,q4,q5,q6,q7⟩:=hV;go_simp;try with_reducible rfl)
    try simp only [Act.put,List.getElem_toArray,List.getElem_cons_succ,List.getElem_cons_zero,List.setIfInBounds_toArray,List.set_cons_zero,List.set_cons_succ]
    refine' anyI_take R 3 rfl (v:=?_) (by kernel_rfl) (by rfl) (fun V hV=>?hy) HS0.out ?_
    case hy=>((try dsimp only at hV); obtain ⟨q0,q1,q2,q3,q4,q5,q6,q7⟩:=hV;go_simp;try with_reducible rfl)
    try simp only [Act.put,List.getElem_toArray,List.getElem_cons_succ,List.getElem_cons_zero,List.setIfInBounds_toArray,List.set_cons_zero,List.set_cons_succ]
    refine' anyI_take R 4 rfl (v:=?_) (by kernel_rfl) (by rfl) (fun V hV=>?hy) HS0.out ?_
    case hy=>((try dsimp only at hV); obtain ⟨q0,q1,q2,q3,q4,q5,q6,q7⟩:=hV;go_simp;try with_reducible rfl)
    try simp only [Act.put,List.getElem_toArray,List.getElem_cons_succ,List.getElem_cons_zero,List.setIfInBounds_toArray,List.set_cons_zero,List.set_cons_succ]
    refine' anyI_take R 5 rfl (v:=?_) (by kernel_rfl) (by rfl) (fun V hV=>?hy) HS0.out ?_
    case hy=>((try dsimp only at hV); obtain ⟨q0,q1,q2,q3,q4,q5,q6,q7⟩:=hV;go_simp;try with_reducible rfl)
    try simp only [Act.put,List.getElem_toArray,List.getElem_cons_succ,List.getElem_cons_zero,List.setIfInBounds_toArray,List.set_cons_zero,List.set_cons_succ]
    refine' anyI_take R 6 rfl (v:=?_) (by kernel_rfl) (by rfl) (fun V hV=>?hy) HS0.out ?_
    case hy=>((try dsimp only at hV); obtain ⟨q0,q1,q2,q3,q4,q5,q6,q7⟩:=hV;go_simp;try with_reducible rfl)
    try simp only [Act.put,List.getElem_toArray,List.getElem_cons_succ,List.getElem_cons_zero,List.setIfInBounds_toArray,List.set_cons_zero,List.set_cons_succ]
    refine' anyI_take R 7 rfl (v:=?_) (by kernel_rfl) (by rfl) (fun V hV=>?hy) HS0.out ?_
    case hy=>((try dsimp only at hV); obtain ⟨q0,q1,q2,q3,q4,q5,q6,q7⟩:=hV;go_simp;try with_reducible rfl)
    try simp only [Act.put,List.getElem_toArray,List.getElem_cons_succ,List.getElem_cons_zero,List.setIfInBounds_toArray,List.set_cons_zero,List.set_cons_succ]
    refine' anyI_take R 8 rfl (v:=?_) (by kernel_rfl) (by rfl) (fun V hV=>?hy) HS0.out ?_
    case hy=>((try dsimp only at hV); obtain ⟨q0,q1,q2,q3,q4,q5,q6,q7⟩:=hV;go_simp;try with_reducible rfl)
    try simp only [Act.put,List.getElem_toArray,List.getElem_cons_succ,List.getElem_cons_zero,List.setIfInBounds_toArray,List.set_cons_zero,List.set_cons_succ]
    refine' anyI_take R 9 rfl (v:=?_) (by kernel_rfl) (by rfl) (fun V hV=>?hy) HS0.out ?_
    case hy=>((try dsimp only at hV); obtain ⟨q0,q1,q2,q3,q4,q5,q6,q7⟩:=hV;go_simp;try with_reducible rfl)
    try simp only [Act.put,List.getElem_toArray,List.getElem_cons_succ,List.getElem_cons_zero,List.setIfInBounds_toArray,List.set_cons_zero,List.set_cons_succ]
    refine anyI_one 10 (by kernel_rfl) rfl ?_
    try simp only [List.getElem_toArray,List.getElem_cons_succ,List.getElem_cons_zero]
    refine opE_step ?_
    rw [if_pos (by rfl)]
    go_simp
    go_at_call 98
    refine (CA.out _ HS0.out.2.2.2.2.2.1).mono ?_
    rintro e w2 ⟨rfl,hb⟩
    replace HS0:=Lib.hid (CkS.later HS0.out hb)
    clear hb
    dsimp only
    refine ⟨HS0.out,?_⟩
    try simp only [Act.put,List.getElem_toArray,List.getElem_cons_succ,List.getElem_cons_zero,List.setIfInBounds_toArray,List.set_cons_zero,List.set_cons_succ]
    refine' anyI_take R 11 rfl (v:=?_) (by kernel_rfl) (by rfl) (fun V hV=>?hy) HS0.out ?_
    case hy=>((try dsimp only at hV); obtain ⟨q0,q1,q2,q3,q4,q5,q6,q7⟩:=hV;go_simp;try with_reducible rfl)
    try simp only [Act.put,List.getElem_toArray,List.getElem_cons_succ,List.getElem_cons_zero,List.setIfInBounds_toArray,List.set_cons_zero,List.set_cons_succ]
    refine anyI_tail (by kernel_rfl) ?_
    try simp only [List.drop_succ_cons,List.drop_zero]
    clear R
    go_wp2_with fail
    refine NoPanic.normal ?_
    refine ‹∀ (a:Act) (w:World),Code.wp _ (Code.cond _ _ _) _ a w→_› _ _ ?_
    go_wp2_with fail
    go_ret
    exact ⟨by rw [RR.out];rfl,HS0.out.2.2.2.2.2.1⟩
  ·obtain rfl:j=l.length:=by omega
   have RR:=Lib.hid (HE.out Hall.out)
   go_wp2
   go_ret
   exact ⟨by rw [RR.out];rfl,hbr⟩
theorem recCheck_any (A:Option Addr) (n c:Nat) (s:Int) (l:List It) (w:World) (hn:l.length=n) (hnc:n ≤ c) (hs:(-9223372036854775808 ≤ s∧s ≤ 9223372036854775807)) (h:RdI w w.heap.size A l) (h64:Its64 l) :
    Calls Tryz.prog 64 #[.agg #[.int .i64 s,.slice A n c]] w fun e w'=>e=.returned (.int .i64 (recErr s l))∧Below w.heap.size w w':=by
 by_cases h1:1 ≤ s
 ·by_cases h2:s ≤ 2147483647
  ·by_cases h3:l.length ≤ 3
   ·exact check_loop A n c s l w hn hnc ⟨h1,h2,h3⟩ h h64
   ·have RR:=Lib.hid (recErr_no (recOk_no (s:=s) (l:=l) (by omega)))
    rw [hn] at h3
    clear h h64 hn
    go_enter Tryz.func64,Tryz.ntmps64
    go_wp2
    go_ret
    exact ⟨by rw [RR.out];rfl,below1 _ _⟩
  ·have RR:=Lib.hid (recErr_no (recOk_no (s:=s) (l:=l) (by omega)))
   clear h h64 hn
   go_enter Tryz.func64,Tryz.ntmps64
   go_wp2
   go_ret
   exact ⟨by rw [RR.out];rfl,below1 _ _⟩
 ·have RR:=Lib.hid (recErr_no (recOk_no (s:=s) (l:=l) (by omega)))
  clear h h64 hn
  go_enter Tryz.func64,Tryz.ntmps64
  go_wp2
  go_ret
  exact ⟨by rw [RR.out];rfl,below1 _ _⟩
theorem recCheck_yes (A:Option Addr) (n c:Nat) (s:Int) (l:List It) (w:World) (hn:l.length=n) (hnc:n ≤ c) (hs:(-9223372036854775808 ≤ s∧s ≤ 9223372036854775807)) (h:RdI w w.heap.size A l) (h64:Its64 l) (hk:Hid (recOk s l=true)) :
    Calls Tryz.prog 64 #[.agg #[.int .i64 s,.slice A n c]] w fun e w'=>e=.returned (.int .i64 0)∧Below w.heap.size w w':=by
 have:=recCheck_any A n c s l w hn hnc hs h h64
 rwa [recErr_yes hk.out] at this
theorem recCheck_no (A:Option Addr) (n c:Nat) (s:Int) (l:List It) (w:World) (hn:l.length=n) (hnc:n ≤ c) (hs:(-9223372036854775808 ≤ s∧s ≤ 9223372036854775807)) (h:RdI w w.heap.size A l) (h64:Its64 l) (hk:Hid (recOk s l=false)) :
    Calls Tryz.prog 64 #[.agg #[.int .i64 s,.slice A n c]] w fun e w'=>e=.returned (.int .i64 1)∧Below w.heap.size w w':=by
 have:=recCheck_any A n c s l w hn hnc hs h h64
 rwa [recErr_no hk.out] at this
end Go.Proofs.YtenkkdnepmoihaaGreatDoor
end
section
set_option maxRecDepth 8000
set_option linter.unusedVariables false
set_option linter.unusedSimpArgs false
namespace Go.Proofs.YtenkkdnepmoihaaGreatDoor
open Go.RowKit
theorem i64_or_nat (a b:Nat) (ha:a < 4611686018427387904) (hb:b < 4611686018427387904):bits .or .i64 (a:Int) (b:Int)=((a ||| b:Nat):Int):=by
 have hx:a ||| b < 2 ^ 62:=Nat.or_lt_two_pow (by omega) (by omega)
 have e1:∀ x:Nat,x < 4611686018427387904→(BitVec.ofInt 64 (x:Int)).toNat=x:=fun x h=>by
  rw [BitVec.ofInt_natCast,BitVec.toNat_ofNat];exact Nat.mod_eq_of_lt (by omega)
 show IntKind.i64.wrap ((BitVec.ofInt 64 (a:Int) ||| BitVec.ofInt 64 (b:Int)).toNat:Int)=_
 rw [BitVec.toNat_or,e1 a ha,e1 b hb]
 exact IntWalk.i64_in _ (by omega)
theorem or_byte (m:Nat) (c:UInt8) (hm:m < 4294967296):bits .or .i64 ((m:Int) * 256) (c.toNat:Int)=((m * 256 + c.toNat:Nat):Int):=by
 have hc:c.toNat < 256:=c.toNat_lt
 have h:=i64_or_nat (m * 256) c.toNat (by omega) (by omega)
 rw [← show 2 ^ 8 * m + c.toNat=m * 256 ||| c.toNat by rw [Nat.two_pow_add_eq_or_of_lt (i:=8) hc];rw [Nat.mul_comm]] at h
 rw [show ((m * 256:Nat):Int)=(m:Int) * 256 by omega] at h
 rw [h];omega
theorem numB_snoc (xs:List UInt8) (k:Nat) (h:k < xs.length):numB (xs.take (k + 1))=numB (xs.take k) * 256 + (xs.getD k 0).toNat:=foldl_snoc (fun (n:Nat) (x:UInt8)=>n * 256 + x.toNat) 0 xs 0 k h
theorem numB_lt (xs:List UInt8):∀ k,k ≤ xs.length→k ≤ 4→numB (xs.take k) < 4294967296∧(k ≤ 3→numB (xs.take k) < 16777216):=by
 have b:∀ c:UInt8,c.toNat < 256:=fun c=>c.toNat_lt
 have h0:numB (xs.take 0)=0:=rfl
 intro k hk h4
 have s0:0 < xs.length→numB (xs.take 1)=numB (xs.take 0) * 256 + (xs.getD 0 0).toNat:=numB_snoc xs 0
 have s1:1 < xs.length→numB (xs.take 2)=numB (xs.take 1) * 256 + (xs.getD 1 0).toNat:=numB_snoc xs 1
 have s2:2 < xs.length→numB (xs.take 3)=numB (xs.take 2) * 256 + (xs.getD 2 0).toNat:=numB_snoc xs 2
 have s3:3 < xs.length→numB (xs.take 4)=numB (xs.take 3) * 256 + (xs.getD 3 0).toNat:=numB_snoc xs 3
 have b0:=b (xs.getD 0 0)
 have b1:=b (xs.getD 1 0)
 have b2:=b (xs.getD 2 0)
 have b3:=b (xs.getD 3 0)
 match k,h4 with
 | 0,_=>omega
 | 1,_=>have:=s0 (by omega);omega
 | 2,_=>have:=s0 (by omega);have:=s1 (by omega);omega
 | 3,_=>have:=s0 (by omega);have:=s1 (by omega);have:=s2 (by omega);omega
 | 4,_=>have:=s0 (by omega);have:=s1 (by omega);have:=s2 (by omega);have:=s3 (by omega);omega
theorem infoI:(Tryz.prog.info? 92).map (fun i=>(i.zero,i.size,i.bytes))=some (some (.agg #[.int .i64 0,.int .i64 0,.slice none 0 0]),3,40):=by kernel_rfl
def FdS (w:World) (y:Int) (v:Value) (l:List It) (V:World):Prop :=
 OwIt 92 V (w.heap.size + 2) (w.heap.size + 2) v l∧Below w.heap.size w V∧V.cell? ⟨w.heap.size + 1,0,none⟩=some (.int .i64 y)∧V.cell? ⟨w.heap.size + 1,1,none⟩=some v
  ∧ (∀ i,V.frozen? ⟨w.heap.size + 1,i,none⟩=false)∧V.cell? ⟨w.heap.size,0,none⟩=some (.int .i64 0)∧V.cell? ⟨w.heap.size,1,none⟩=some (.slice none 0 0)∧(∀ i,V.frozen? ⟨w.heap.size,i,none⟩=false)
section
variable {w V V':World} {y y':Int} {v v':Value} {l l':List It}
theorem FdS.sz (h:FdS w y v l V):w.heap.size + 2 ≤ V.heap.size:=World.block_lt_of_cell? _ _ h.2.2.1
theorem FdS.drew (h:FdS w y v l V):FdS w y v l V.drew:=⟨h.1.below ((Below.refl _ _).drew),h.2.1.drew,h.2.2.1,h.2.2.2.1,h.2.2.2.2⟩
theorem FdS.grow {row:Option Nat} (h:FdS w y v l V) (hg:V.grownBy V' row) (hr:∀ k,row=some k→w.heap.size + 2 ≤ k) (ho:OwIt 92 V' (w.heap.size + 2) (w.heap.size + 2) v' l'):OwIt 92 V' (w.heap.size + 2) (w.heap.size + 2) v' l'∧Below w.heap.size w V'∧V'.cell? ⟨w.heap.size + 1,0,none⟩=some (.int .i64 y)∧V'.cell? ⟨w.heap.size + 1,1,none⟩=some v
    ∧ (∀ i,V'.frozen? ⟨w.heap.size + 1,i,none⟩=false)∧V'.cell? ⟨w.heap.size,0,none⟩=some (.int .i64 0)∧V'.cell? ⟨w.heap.size,1,none⟩=some (.slice none 0 0)∧(∀ i,V'.frozen? ⟨w.heap.size,i,none⟩=false):=by
 obtain ⟨h0,h1,h2,h3,h4,h5,h6,h7⟩:=h
 have hs:w.heap.size + 2 ≤ V.heap.size:=World.block_lt_of_cell? _ _ h2
 have n0:∀ i,some (⟨w.heap.size,i,none⟩:Addr).block ≠ row:=fun i e=>by have:w.heap.size + 2 ≤ w.heap.size:=hr _ e.symm;omega
 have n1:∀ i,some (⟨w.heap.size + 1,i,none⟩:Addr).block ≠ row:=fun i e=>by have:w.heap.size + 2 ≤ w.heap.size + 1:=hr _ e.symm;omega
 have l0:∀ i,(⟨w.heap.size,i,none⟩:Addr).block < V.heap.size:=fun i=>by show w.heap.size < _;omega
 have l1:∀ i,(⟨w.heap.size + 1,i,none⟩:Addr).block < V.heap.size:=fun i=>by show w.heap.size + 1 < _;omega
 exact ⟨ho,h1.grown hg h1.size (fun k e=>by have:=hr k e;omega),(hg.cell_far _ (l1 _) (n1 _)).trans h2,(hg.cell_far _ (l1 _) (n1 _)).trans h3,fun i=>(hg.frozen_far _ (l1 _) (n1 _)).trans (h4 i),(hg.cell_far _ (l0 _) (n0 _)).trans h5,(hg.cell_far _ (l0 _) (n0 _)).trans h6,fun i=>(hg.frozen_far _ (l0 _) (n0 _)).trans (h7 i)⟩
theorem FdS.below (h:FdS w y v l V) (hb:Below V.heap.size V V'):FdS w y v l V':=h.grow (grown_none hb) (by simp) (h.1.below hb)
theorem grown_cell (V:World) (q i:Nat) (u:Value):V.grownBy (V.setCell ⟨q,i,none⟩ u) (some q):=⟨rfl,rfl,rfl,by simp,fun k _ hne=>Below.heap_setCell V _ _ k (fun e=>hne (by rw [e]))⟩
theorem FdS.put0 (h:FdS w y v l V) (y':Int):FdS w y' v l (V.setCell ⟨w.heap.size + 1,0,none⟩ (.int .i64 y')):=by
 obtain ⟨h0,h1,h2,h3,h4,h5,h6,h7⟩:=h
 have hg:=grown_cell V (w.heap.size + 1) 0 (.int .i64 y')
 refine ⟨h0.far hg (by omega) (by omega),h1.setCell (p:=⟨w.heap.size + 1,0,none⟩) (by show w.heap.size ≤ w.heap.size + 1;omega) _,World.cell?_setCell_same _ _ _ h2,(World.cell?_setCell_other _ _ _ _ (by intro e;injection e with _ e;cases e)).trans h3,fun i=>by rw [World.frozen?_setCell];exact h4 i,
  (World.cell?_setCell_other _ _ _ _ (by intro e;injection e with e;omega)).trans h5,(World.cell?_setCell_other _ _ _ _ (by intro e;injection e with e;omega)).trans h6,fun i=>by rw [World.frozen?_setCell];exact h7 i⟩
theorem FdS.put1 (h:FdS w y v l V) (hg:V.grownBy V' v.ownBlock) (ho:OwIt 92 V' (w.heap.size + 2) (w.heap.size + 2) v' l'):FdS w y v' l' (V'.setCell ⟨w.heap.size + 1,1,none⟩ v'):=by
 obtain ⟨h0,h1,h2,h3,h4,h5,h6,h7⟩:=h.grow hg (fun k e=>(h.1.lt k e).1) ho
 have hg:=grown_cell V' (w.heap.size + 1) 1 v'
 refine ⟨h0.far hg (by omega) (by omega),h1.setCell (p:=⟨w.heap.size + 1,1,none⟩) (by show w.heap.size ≤ w.heap.size + 1;omega) _,(World.cell?_setCell_other _ _ _ _ (by intro e;injection e with _ e;cases e)).trans h2,World.cell?_setCell_same _ _ _ h3,fun i=>by rw [World.frozen?_setCell];exact h4 i,
  (World.cell?_setCell_other _ _ _ _ (by intro e;injection e with e;omega)).trans h5,(World.cell?_setCell_other _ _ _ _ (by intro e;injection e with e;omega)).trans h6,fun i=>by rw [World.frozen?_setCell];exact h7 i⟩
theorem FdS.start (w:World) (t:TypeId):FdS w 0 (.slice none 0 0) [] ((w.alloc (.cells #[.int .i64 0,.slice none 0 0] t)).alloc (.cells #[.int .i64 0,.slice none 0 0] t)):=by
 have c1:=fun i=>cell_of_row _ _ i _ _ _ (heap_alloc_new (w.alloc (.cells #[.int .i64 0,.slice none 0 0] t)) (.cells #[.int .i64 0,.slice none 0 0] t))
 have hsz:(w.alloc (.cells #[.int .i64 0,.slice none 0 0] t)).heap.size=w.heap.size + 1:=by simp
 have f1:=fun i=>World.frozen?_alloc_new (w.alloc (.cells #[.int .i64 0,.slice none 0 0] t)) #[.int .i64 0,.slice none 0 0] t i
 rw [hsz] at c1 f1
 have c0:=fun i=>(World.cell?_alloc_lt (w.alloc (.cells #[.int .i64 0,.slice none 0 0] t)) (.cells #[.int .i64 0,.slice none 0 0] t) ⟨w.heap.size,i,none⟩ (by simp)).trans (cell_of_row _ _ i _ _ _ (heap_alloc_new w (.cells #[.int .i64 0,.slice none 0 0] t)))
 have f0:=fun i=>(World.frozen?_alloc_old (w.alloc (.cells #[.int .i64 0,.slice none 0 0] t)) (.cells #[.int .i64 0,.slice none 0 0] t) (a:=⟨w.heap.size,i,none⟩) (by show w.heap.size ≠ _;rw [hsz];exact Nat.ne_of_lt (Nat.lt_succ_self _))).trans (World.frozen?_alloc_new w #[.int .i64 0,.slice none 0 0] t i)
 exact ⟨OwIt.nil _ _ _ _,below2 _ _ _,c1 0,c1 1,f1,c0 0,c0 1,f0⟩
end
theorem FdS.put_end {w V:World} {y:Int} {v:Value} {l:List It} (h:FdS w y v l V):((V.setCell ⟨w.heap.size,0,none⟩ (.int .i64 y)).setCell ⟨w.heap.size,1,none⟩ v).cell? ⟨w.heap.size,0,none⟩=some (.int .i64 y)∧((V.setCell ⟨w.heap.size,0,none⟩ (.int .i64 y)).setCell ⟨w.heap.size,1,none⟩ v).cell? ⟨w.heap.size,1,none⟩=some v
    ∧ OwIt 92 ((V.setCell ⟨w.heap.size,0,none⟩ (.int .i64 y)).setCell ⟨w.heap.size,1,none⟩ v) w.heap.size w.heap.size v l∧Below w.heap.size w ((V.setCell ⟨w.heap.size,0,none⟩ (.int .i64 y)).setCell ⟨w.heap.size,1,none⟩ v):=by
 obtain ⟨h0,h1,h2,h3,h4,h5,h6,h7⟩:=h
 have g1:=grown_cell V w.heap.size 0 (.int .i64 y)
 have g2:=grown_cell (V.setCell ⟨w.heap.size,0,none⟩ (.int .i64 y)) w.heap.size 1 v
 have k6:(V.setCell ⟨w.heap.size,0,none⟩ (.int .i64 y)).cell? ⟨w.heap.size,1,none⟩=some (.slice none 0 0):=(World.cell?_setCell_other _ _ _ _ (by intro e;injection e with _ e;cases e)).trans h6
 exact ⟨(World.cell?_setCell_other _ _ _ _ (by intro e;injection e with _ e;cases e)).trans (World.cell?_setCell_same _ _ _ h5),World.cell?_setCell_same _ _ _ k6,((h0.far g1 (by omega) (by omega)).far g2 (by omega) (by omega)).le (by omega) (by omega),(h1.setCell (p:=⟨w.heap.size,0,none⟩) (Nat.le_refl _) _).setCell (p:=⟨w.heap.size,1,none⟩) (Nat.le_refl _) _⟩
theorem numB_four' (rs:List (List UInt8)):((numB [(rs.getD 0 []).getD 4 0,(rs.getD 0 []).getD 5 0,(rs.getD 0 []).getD 6 0,(rs.getD 0 []).getD 7 0]:Nat):Int)=sqO rs:=rfl
set_option maxHeartbeats 4000000 in
theorem fields_at (b off c:Nat) (rs:List (List UInt8)) (x:List UInt8) (x0 x1 x2 x3:UInt8) (cn:Nat) (w:World) (h:RdC w w.heap.size (some ⟨b,off,none⟩) rs) (hc4:4 ≤ c) (hs:sect rs=true)
    (hx:rs.getD 0 []=x) (hxs:x.getD 4 0=x0∧x.getD 5 0=x1∧x.getD 6 0=x2∧x.getD 7 0=x3) (hcn:(x.getD 8 0).toNat=cn) :
    Calls Tryz.prog 112 #[.slice (some ⟨b,off,none⟩) 4 c] w fun e w'=>∃ v,e=.returned (.agg #[.int .i64 (sqO rs),v])∧OwIt 92 w' w.heap.size w.heap.size v (itsO rs)∧Below w.heap.size w w':=by
 have hl4:=((sect_iff rs).1 hs).1
 have HX:=Lib.hid (fun k hk=>sect_get hs k hk)
 have HR:=Lib.hid h
 obtain ⟨b',off',e,hb,hcell⟩:=h.2 (by omega)
 injection e with e
 injection e with e1 e2 _
 subst e1 e2
 obtain ⟨A0,c0,g0,hlc,hrd⟩:=hcell 0 (by omega)
 rw [hx] at g0 hlc hrd
 have hx32:x.length=32:=by rw [← hx];exact HX.out 0 (by omega)
 rw [hx32] at g0 hlc
 rw [Nat.add_zero] at g0
 obtain ⟨b0,o0,rfl,hb0,hk0⟩:=hrd.2 (by omega)
 have HB:=Lib.hid (fun (V:World) (hV:Below w.heap.size w V) (k:Nat) (hk:k < 32)=>(hV.cell (p:=⟨b0,o0 + k,none⟩) hb0).trans (hk0 k (by omega)))
 have HC0:=Lib.hid (fun (V:World) (hV:Below w.heap.size w V)=>(hV.cell (p:=⟨b,off,none⟩) hb).trans g0)
 have HCK:=Lib.hid hcell
 have Hq:=Lib.hid (show ((numB [x0,x1,x2,x3]:Nat):Int)=sqO rs by obtain ⟨rfl,rfl,rfl,rfl⟩:=hxs;rw [← hx];exact numB_four' rs)
 have Hi:=Lib.hid (show itsO rs=itsN rs (min cn 3) by unfold itsO cnO;rw [hx,hcn])
 have Hxs:=Lib.hid (show ∀ k,k < 4→x.getD (4 + k) 0=[x0,x1,x2,x3].getD k 0 from fun k hk=>by
  obtain ⟨rfl,rfl,rfl,rfl⟩:=hxs
  match k,hk with
  | 0,_=>rfl
  | 1,_=>rfl
  | 2,_=>rfl
  | 3,_=>rfl)
 have Hcn:=Lib.hid hcn
 have S0:=FdS.start w 43
 have q0:=(HC0.out _ (S0.2.1))
 clear h hs hcell g0 hrd hk0 hxs hcn
 have i0:(8:Int) ≤ (c0:Int):=by omega
 have i4:¬ c0=4:=by omega
 have i1:¬ c=1:=by omega
 have j1:(4:Int) ≤ (c:Int):=by omega
 obtain ⟨W0,hW0⟩:∃ W,((w.alloc (.cells #[.int .i64 0,.slice none 0 0] 43)).alloc (.cells #[.int .i64 0,.slice none 0 0] 43))=W:=⟨_,rfl⟩
 rw [hW0] at S0 q0
 go_enter Tryz.func112,Tryz.ntmps112
 go_wp2_with fail
 have Hst:=Lib.hid S0
 clear hW0 S0
 go_quiet (fail)
 go_wp2
 have Hnq:=Lib.hid (FdS.below Hst.out (belowN _ _ nq))
 clear Hst q0
 go_loopw [18] (fun i wr=>∃ k:Nat,k ≤ 4∧i=.int .i64 k∧FdS w ((numB ([x0,x1,x2,x3].take k):Nat):Int) (.slice none 0 0) [] wr) (fun i _=>4 - (intOf i).toNat)
 case atStart=>exact ⟨0,by omega,rfl,Hnq.out⟩
 case round =>
  obtain ⟨k,hk,rfl,hst⟩:=hrel
  have Hst:=Lib.hid hst
  clear hst
  clear Hnq
  by_cases hlt:k < 4
  ·have h1:=HB.out _ Hst.out.2.1 (4 + k) (by omega)
   rw [Hxs.out k hlt,← Nat.add_assoc] at h1
   have q1:=Hst.out.2.2.1
   have q2:=Hst.out.2.2.2.2.1 0
   have hy:=numB_lt [x0,x1,x2,x3] k (by simp;omega) hk
   have Hsn:=Lib.hid (numB_snoc [x0,x1,x2,x3] k (by simp;omega))
   have HP:=Lib.hid (fun y=>Hst.out.put0 y)
   generalize [x0,x1,x2,x3].getD k 0=u at h1 Hsn
   generalize numB ([x0,x1,x2,x3].take k)=y at hy Hsn q1
   have eo:=or_byte y u hy.1
   have hu:u.toNat < 256:=u.toNat_lt
   go_wp2
   go_roundw
   case rel=>exact ⟨k + 1,by omega,by go_num,by rw [Hsn.out];exact HP.out _⟩
   case measure=>simp [intOf];omega
  ·obtain rfl:k=4:=by omega
   rw [show ((4:Nat):Int)=4 from rfl]
   have h8:=HB.out _ Hst.out.2.1 8 (by omega)
   rw [Hcn.out] at h8
   have Hst2:=Lib.hid (show FdS w (sqO rs) (.slice none 0 0) (itsN rs 0) wr by have:=Hst.out;rw [show [x0,x1,x2,x3].take 4=[x0,x1,x2,x3] from rfl,Hq.out] at this;exact this)
   have hcl:cn < 256:=by rw [← Hcn.out];exact (x.getD 8 0).toNat_lt
   clear Hst
   obtain ⟨y,hy⟩:∃ y,sqO rs=y:=⟨_,rfl⟩
   rw [hy] at Hst2
   have HY:=Lib.hid hy
   clear hy
   by_cases h3:cn ≤ 3
   ·have e3:(cn:Int) ≤ 3:=by omega
    have HI:=Lib.hid (show itsO rs=itsN rs cn by rw [Hi.out,Nat.min_eq_left h3])
    go_wp2
    go_loopw [35] (fun iv wr=>∃ (i:Nat) (v:Value),i ≤ cn∧iv=.int .i64 i∧FdS w y v (itsN rs i) wr) (fun iv _=>cn - (intOf iv).toNat)
    case atStart=>exact ⟨0,_,Nat.zero_le _,rfl,Hst2.out⟩
    case round =>
     obtain ⟨i,v,hi,rfl,hst⟩:=hrel
     have Hst:=Lib.hid hst
     clear hst Hst2
     by_cases hlt:i < cn
     ·have hi3:i < 3:=by omega
      obtain ⟨D,cd,gk,hcd,hdk⟩:=HCK.out (1 + i) (by omega)
      have HD:=Lib.hid (HX.out (1 + i) (by omega))
      have HC:Hid (∀ V,Below w.heap.size w V→V.cell? ⟨b0,o0 + (9 + 2 * i),none⟩=some (.int .u8 ((x.getD (9 + 2 * i) 0).toNat:Int))∧V.cell? ⟨b0,o0 + (9 + 2 * i) + 1,none⟩=some (.int .u8 ((x.getD (10 + 2 * i) 0).toNat:Int))∧V.cell? ⟨b,off + 1 + i,none⟩=some (.slice D 32 cd)):=Lib.hid fun V hV=>by
       refine ⟨HB.out V hV _ (by omega),?_,?_⟩
       ·rw [Nat.add_assoc,show 9 + 2 * i + 1=10 + 2 * i by omega];exact HB.out V hV _ (by omega)
       ·rw [Nat.add_assoc];rw [HD.out] at gk;exact (hV.cell (p:=⟨b,off + (1 + i),none⟩) hb).trans gk
      have CC:Hid (∀ V,Below w.heap.size w V→Calls Tryz.prog 86 #[.slice D 32 cd] V fun e w'=>∃ v,e=.returned v∧OwB 5 w' V.heap.size v (rs.getD (1 + i) [])∧Below V.heap.size V w'):=Lib.hid fun V hV=>clone_any D (rs.getD (1 + i) []) 32 cd V HD.out.symm (by rw [HD.out];omega) ((hdk.below hV (Nat.le_refl _)).more hV.size)
      have HIt:Hid (itsN rs (i + 1)=itsN rs i ++ [⟨((x.getD (9 + 2 * i) 0).toNat:Int),((x.getD (10 + 2 * i) 0).toNat:Int),rs.getD (1 + i) []⟩]):=by
       refine Lib.hid ?_
       rw [itsN_succ,← hx];rfl
      have hu0:(x.getD (9 + 2 * i) 0).toNat < 256:=(x.getD (9 + 2 * i) 0).toNat_lt
      have hu1:(x.getD (10 + 2 * i) 0).toNat < 256:=(x.getD (10 + 2 * i) 0).toNat_lt
      generalize (x.getD (9 + 2 * i) 0).toNat=u0 at HC HIt hu0
      generalize (x.getD (10 + 2 * i) 0).toNat=u1 at HC HIt hu1
      generalize rs.getD (1 + i) []=dat at HD CC HIt
      have k1:IntKind.i64.wrap (2 * (i:Int))=2 * (i:Int):=by rw [IntKind.wrap_i64];omega
      have k2:IntKind.i64.wrap (9 + 2 * (i:Int))=9 + 2 * (i:Int):=by rw [IntKind.wrap_i64];omega
      have k3:(9 + 2 * (i:Int)).toNat=9 + 2 * i:=by omega
      have k4:0 ≤ 9 + 2 * (i:Int)∧9 + 2 * (i:Int) ≤ 32:=by omega
      have k5:¬ c0=9 + 2 * i:=by omega
      have k6:(9 + 2 * (i:Int)) ≤ (c0:Int):=by omega
      have k7:(32:Int) ≤ (c0:Int):=by omega
      have k8:(i:Int) < 3:=by omega
      obtain ⟨L,hL⟩:∃ L,32 - (9 + 2 * i)=L:=⟨_,rfl⟩
      have k9:(1:Int) < (L:Int):=by omega
      have k10:(0:Int) < (L:Int):=by omega
      have k11:0 < L:=by omega
      have k13:IntKind.i64.wrap (u0:Int)=(u0:Int):=by rw [IntKind.wrap_i64];omega
      have k14:IntKind.i64.wrap (u1:Int)=(u1:Int):=by rw [IntKind.wrap_i64];omega
      have k12:1 < L:=by omega
      clear gk hdk
      go_wp2_with fail
      refine wp_region_noPanic (region_ord 17 [] (fun V=>FdS w y v (itsN rs i) V) (by kernel_rfl) (by kernel_rfl) (fun _ _ _ _ _ h=>h) fun R=>?_)
      change anyI _ _ _ _ _ _ 20 _ _ wr.drew
      have HS0:=Lib.hid (show (fun V=>FdS w y v (itsN rs i) V) wr.drew from FdS.drew Hst.out)
      refine' anyI_take R 0 rfl (v:=?_) (by kernel_rfl) (by rfl) (fun V hV=>?hy) HS0.out ?_
      case hy=>((try dsimp only at hV); have qk:=HC.out V hV.2.1;have p0:=qk.1;have p1:=qk.2.1;have p2:=qk.2.2;have p3:=hV.2.2.2.1;go_simp;try with_reducible rfl)
      try simp only [Act.put,List.getElem_toArray,List.getElem_cons_succ,List.getElem_cons_zero,List.setIfInBounds_toArray,List.set_cons_zero,List.set_cons_succ]
      refine' anyI_take R 1 rfl (v:=?_) (by kernel_rfl) (by rfl) (fun V hV=>?hy) HS0.out ?_
      case hy=>((try dsimp only at hV); have qk:=HC.out V hV.2.1;have p0:=qk.1;have p1:=qk.2.1;have p2:=qk.2.2;have p3:=hV.2.2.2.1;go_simp;try with_reducible rfl)
      try simp only [Act.put,List.getElem_toArray,List.getElem_cons_succ,List.getElem_cons_zero,List.setIfInBounds_toArray,List.set_cons_zero,List.set_cons_succ]
      refine' anyI_take R 2 rfl (v:=?_) (by kernel_rfl) (by rfl) (fun V hV=>?hy) HS0.out ?_
      case hy=>((try dsimp only at hV); have qk:=HC.out V hV.2.1;have p0:=qk.1;have p1:=qk.2.1;have p2:=qk.2.2;have p3:=hV.2.2.2.1;go_simp;try with_reducible rfl)
      try simp only [Act.put,List.getElem_toArray,List.getElem_cons_succ,List.getElem_cons_zero,List.setIfInBounds_toArray,List.set_cons_zero,List.set_cons_succ]
      refine' anyI_take R 3 rfl (v:=?_) (by kernel_rfl) (by rfl) (fun V hV=>?hy) HS0.out ?_
      case hy=>((try dsimp only at hV); have qk:=HC.out V hV.2.1;have p0:=qk.1;have p1:=qk.2.1;have p2:=qk.2.2;have p3:=hV.2.2.2.1;go_simp;try with_reducible rfl)
      try simp only [Act.put,List.getElem_toArray,List.getElem_cons_succ,List.getElem_cons_zero,List.setIfInBounds_toArray,List.set_cons_zero,List.set_cons_succ]
      refine' anyI_take R 4 rfl (v:=?_) (by kernel_rfl) (by rfl) (fun V hV=>?hy) HS0.out ?_
      case hy=>((try dsimp only at hV); have qk:=HC.out V hV.2.1;have p0:=qk.1;have p1:=qk.2.1;have p2:=qk.2.2;have p3:=hV.2.2.2.1;go_simp;try with_reducible rfl)
      try simp only [Act.put,List.getElem_toArray,List.getElem_cons_succ,List.getElem_cons_zero,List.setIfInBounds_toArray,List.set_cons_zero,List.set_cons_succ]
      refine' anyI_take R 5 rfl (v:=?_) (by kernel_rfl) (by rfl) (fun V hV=>?hy) HS0.out ?_
      case hy=>((try dsimp only at hV); have qk:=HC.out V hV.2.1;have p0:=qk.1;have p1:=qk.2.1;have p2:=qk.2.2;have p3:=hV.2.2.2.1;go_simp;try with_reducible rfl)
      try simp only [Act.put,List.getElem_toArray,List.getElem_cons_succ,List.getElem_cons_zero,List.setIfInBounds_toArray,List.set_cons_zero,List.set_cons_succ]
      refine' anyI_take R 6 rfl (v:=?_) (by kernel_rfl) (by rfl) (fun V hV=>?hy) HS0.out ?_
      case hy=>((try dsimp only at hV); have qk:=HC.out V hV.2.1;have p0:=qk.1;have p1:=qk.2.1;have p2:=qk.2.2;have p3:=hV.2.2.2.1;go_simp;try with_reducible rfl)
      try simp only [Act.put,List.getElem_toArray,List.getElem_cons_succ,List.getElem_cons_zero,List.setIfInBounds_toArray,List.set_cons_zero,List.set_cons_succ]
      refine' anyI_take R 7 rfl (v:=?_) (by kernel_rfl) (by rfl) (fun V hV=>?hy) HS0.out ?_
      case hy=>((try dsimp only at hV); have qk:=HC.out V hV.2.1;have p0:=qk.1;have p1:=qk.2.1;have p2:=qk.2.2;have p3:=hV.2.2.2.1;go_simp;try with_reducible rfl)
      try simp only [Act.put,List.getElem_toArray,List.getElem_cons_succ,List.getElem_cons_zero,List.setIfInBounds_toArray,List.set_cons_zero,List.set_cons_succ]
      refine' anyI_take R 8 rfl (v:=?_) (by kernel_rfl) (by rfl) (fun V hV=>?hy) HS0.out ?_
      case hy=>((try dsimp only at hV); have qk:=HC.out V hV.2.1;have p0:=qk.1;have p1:=qk.2.1;have p2:=qk.2.2;have p3:=hV.2.2.2.1;go_simp;try with_reducible rfl)
      try simp only [Act.put,List.getElem_toArray,List.getElem_cons_succ,List.getElem_cons_zero,List.setIfInBounds_toArray,List.set_cons_zero,List.set_cons_succ]
      refine' anyI_take R 9 rfl (v:=?_) (by kernel_rfl) (by rfl) (fun V hV=>?hy) HS0.out ?_
      case hy=>((try dsimp only at hV); have qk:=HC.out V hV.2.1;have p0:=qk.1;have p1:=qk.2.1;have p2:=qk.2.2;have p3:=hV.2.2.2.1;go_simp;try with_reducible rfl)
      try simp only [Act.put,List.getElem_toArray,List.getElem_cons_succ,List.getElem_cons_zero,List.setIfInBounds_toArray,List.set_cons_zero,List.set_cons_succ]
      refine' anyI_take R 10 rfl (v:=?_) (by kernel_rfl) (by rfl) (fun V hV=>?hy) HS0.out ?_
      case hy=>((try dsimp only at hV); have qk:=HC.out V hV.2.1;have p0:=qk.1;have p1:=qk.2.1;have p2:=qk.2.2;have p3:=hV.2.2.2.1;go_simp;try with_reducible rfl)
      try simp only [Act.put,List.getElem_toArray,List.getElem_cons_succ,List.getElem_cons_zero,List.setIfInBounds_toArray,List.set_cons_zero,List.set_cons_succ]
      refine' anyI_take R 11 rfl (v:=?_) (by kernel_rfl) (by rfl) (fun V hV=>?hy) HS0.out ?_
      case hy=>((try dsimp only at hV); have qk:=HC.out V hV.2.1;have p0:=qk.1;have p1:=qk.2.1;have p2:=qk.2.2;have p3:=hV.2.2.2.1;go_simp;try with_reducible rfl)
      try simp only [Act.put,List.getElem_toArray,List.getElem_cons_succ,List.getElem_cons_zero,List.setIfInBounds_toArray,List.set_cons_zero,List.set_cons_succ]
      refine' anyI_take R 12 rfl (v:=?_) (by kernel_rfl) (by rfl) (fun V hV=>?hy) HS0.out ?_
      case hy=>((try dsimp only at hV); have qk:=HC.out V hV.2.1;have p0:=qk.1;have p1:=qk.2.1;have p2:=qk.2.2;have p3:=hV.2.2.2.1;go_simp;try with_reducible rfl)
      try simp only [Act.put,List.getElem_toArray,List.getElem_cons_succ,List.getElem_cons_zero,List.setIfInBounds_toArray,List.set_cons_zero,List.set_cons_succ]
      refine' anyI_take R 13 rfl (v:=?_) (by kernel_rfl) (by rfl) (fun V hV=>?hy) HS0.out ?_
      case hy=>((try dsimp only at hV); have qk:=HC.out V hV.2.1;have p0:=qk.1;have p1:=qk.2.1;have p2:=qk.2.2;have p3:=hV.2.2.2.1;go_simp;try with_reducible rfl)
      try simp only [Act.put,List.getElem_toArray,List.getElem_cons_succ,List.getElem_cons_zero,List.setIfInBounds_toArray,List.set_cons_zero,List.set_cons_succ]
      refine anyI_one 14 (by kernel_rfl) rfl ?_
      try simp only [List.getElem_toArray,List.getElem_cons_succ,List.getElem_cons_zero]
      refine opE_step ?_
      rw [if_pos (by rfl)]
      go_simp
      go_at_call 86
      refine (CC.out _ HS0.out.2.1).mono ?_
      rintro e w1 ⟨v1,rfl,OV,hb⟩
      have HZ:=Lib.hid HS0.out.sz
      replace HS0:=Lib.hid (FdS.below HS0.out hb)
      obtain ⟨g1,cp1,rfl,hg1,hgl,hcp,_,hr1⟩:=OV.pos (by rw [HD.out];omega)
      rw [HD.out]
      have Hr1:=Lib.hid hr1
      have Hg1:=Lib.hid (Nat.le_trans HZ.out hg1)
      have HW:=Lib.hid hg1
      rw [HD.out] at hcp
      clear hb OV HZ hr1 hg1
      try dsimp only
      refine ⟨HS0.out,?_⟩
      try simp only [Act.put,List.getElem_toArray,List.getElem_cons_succ,List.getElem_cons_zero,List.setIfInBounds_toArray,List.set_cons_zero,List.set_cons_succ]
      refine' anyI_take R 15 rfl (v:=?_) (by kernel_rfl) (by rfl) (fun V hV=>?hy) HS0.out ?_
      case hy=>((try dsimp only at hV); have qk:=HC.out V hV.2.1;have p0:=qk.1;have p1:=qk.2.1;have p2:=qk.2.2;have p3:=hV.2.2.2.1;go_simp;try with_reducible rfl)
      try simp only [Act.put,List.getElem_toArray,List.getElem_cons_succ,List.getElem_cons_zero,List.setIfInBounds_toArray,List.set_cons_zero,List.set_cons_succ]
      refine anyI_one 16 (by kernel_rfl) rfl ?_
      try simp only [List.getElem_toArray,List.getElem_cons_succ,List.getElem_cons_zero]
      refine opE_step ?_
      rw [if_pos (by rfl)]
      go_simp
      replace HS0:=Lib.hid (FdS.below HS0.out (below1 w1 (.cells #[.int .i64 (u0:Int),.int .i64 (u1:Int),.slice (some ⟨g1,0,none⟩) 32 cp1] 92)))
      try dsimp only
      refine ⟨HS0.out,?_⟩
      try simp only [Act.put,List.getElem_toArray,List.getElem_cons_succ,List.getElem_cons_zero,List.setIfInBounds_toArray,List.set_cons_zero,List.set_cons_succ]
      refine anyI_tail (by kernel_rfl) ?_
      try simp only [List.drop_succ_cons,List.drop_zero]
      clear R
      have HA:=Lib.hid HS0.out
      have HN:=Lib.hid (fun ob (hob:ob=v.ownBlock)=>src_one (w:=w1.alloc (.cells #[.int .i64 (u0:Int),.int .i64 (u1:Int),.slice (some ⟨g1,0,none⟩) 32 cp1] 92)) (lo:=w.heap.size + 2) (g:=w1.heap.size) (ob:=ob) (x:=⟨(u0:Int),(u1:Int),dat⟩) (D:=some ⟨g1,0,none⟩) (c:=cp1) (by dsimp only;rw [HD.out];exact heap_alloc_new _ _) ((Hr1.out.below (below1 w1 _) (Nat.le_refl _)).more (by simp)) (by dsimp only;rw [HD.out];exact hcp) (fun _ a ha=>by
       injection ha with ha
       subst ha
       refine ⟨fun e=>?_,Hg1.out⟩
       rw [hob] at e
       have h1:=(Hst.out.1.lt g1 e.symm).2
       exact absurd (Nat.lt_of_lt_of_le h1 HW.out) (Nat.lt_irrefl _)))
      go_wp2_with (
       ((with_reducible refine (id ?_:wpList _ _ _ (⟨some 60,_,_,_,_,_⟩::_) _ _));refine wpList_append_I _ (by rfl) _ _ _ (by rfl) (w.heap.size + 2) (w.heap.size + 2) 92 Tryz.underlying41 infoI v _ (by rfl) HA.out.1 (some ⟨w1.heap.size,0,none⟩) 1 1 _ (by rfl) (by rfl) (HN.out _ rfl) (by rw [itsN_len];show i + 1 ≤ _;omega) HA.out.sz ?_
        intro v4 w4 O4 g4 _
        obtain ⟨A4,c4,rfl,_,_⟩:=O4.rd
        have H4:=Lib.hid (show FdS w y _ (itsN rs (i + 1)) (w4.setCell ⟨w.heap.size + 1,1,none⟩ (.slice A4 _ c4)) from FdS.put1 HA.out g4 (by rw [HIt.out];exact O4))
        obtain ⟨_,_,_,q3',q4',_⟩:=HA.out.grow g4 (fun k e=>(HA.out.1.lt k e).1) O4
        have q5':=q4' 1
        rw [show (itsN rs i ++ [(⟨(u0:Int),(u1:Int),dat⟩:It)]).length=(itsN rs i).length + 1 from List.length_append] at H4
        clear O4 g4 q4'))
      refine NoPanic.normal ?_
      go_wp2
      go_roundw
      case rel=>exact ⟨i + 1,_,by omega,by go_num,H4.out⟩
      case measure=>simp [intOf];omega
     ·obtain rfl:i=cn:=by omega
      obtain ⟨h0,h1,h2,h3,h4,h5,h6,h7⟩:=Hst.out
      have f0:=h7 0
      have f1:=h7 1
      have HF:=Lib.hid (FdS.put_end Hst.out)
      obtain ⟨A5,c5,rfl,_,_⟩:=h0.rd
      clear h0 h1 h4 h7
      go_wp2
      refine bodyPost_ret (v:=.agg #[.int .i64 y,.slice A5 (itsN rs i).length c5]) (by simp [results,Tryz.results112,go_sem,HF.out.1,HF.out.2.1]) rfl ⟨_,by rw [HY.out],by rw [HI.out];exact HF.out.2.2.1,HF.out.2.2.2⟩
   ·have e3:¬ (cn:Int) ≤ 3:=by omega
    have HI:=Lib.hid (show itsO rs=itsN rs 3 by rw [Hi.out,Nat.min_eq_right (by omega)])
    go_wp2
    go_loopw [35] (fun iv wr=>∃ (i:Nat) (v:Value),i ≤ 3∧iv=.int .i64 i∧FdS w y v (itsN rs i) wr) (fun iv _=>3 - (intOf iv).toNat)
    case atStart=>exact ⟨0,_,Nat.zero_le _,rfl,Hst2.out⟩
    case round =>
     obtain ⟨i,v,hi,rfl,hst⟩:=hrel
     have Hst:=Lib.hid hst
     clear hst Hst2
     by_cases hlt:i < 3
     ·have hi3:i < 3:=by omega
      obtain ⟨D,cd,gk,hcd,hdk⟩:=HCK.out (1 + i) (by omega)
      have HD:=Lib.hid (HX.out (1 + i) (by omega))
      have HC:Hid (∀ V,Below w.heap.size w V→V.cell? ⟨b0,o0 + (9 + 2 * i),none⟩=some (.int .u8 ((x.getD (9 + 2 * i) 0).toNat:Int))∧V.cell? ⟨b0,o0 + (9 + 2 * i) + 1,none⟩=some (.int .u8 ((x.getD (10 + 2 * i) 0).toNat:Int))∧V.cell? ⟨b,off + 1 + i,none⟩=some (.slice D 32 cd)):=Lib.hid fun V hV=>by
       refine ⟨HB.out V hV _ (by omega),?_,?_⟩
       ·rw [Nat.add_assoc,show 9 + 2 * i + 1=10 + 2 * i by omega];exact HB.out V hV _ (by omega)
       ·rw [Nat.add_assoc];rw [HD.out] at gk;exact (hV.cell (p:=⟨b,off + (1 + i),none⟩) hb).trans gk
      have CC:Hid (∀ V,Below w.heap.size w V→Calls Tryz.prog 86 #[.slice D 32 cd] V fun e w'=>∃ v,e=.returned v∧OwB 5 w' V.heap.size v (rs.getD (1 + i) [])∧Below V.heap.size V w'):=Lib.hid fun V hV=>clone_any D (rs.getD (1 + i) []) 32 cd V HD.out.symm (by rw [HD.out];omega) ((hdk.below hV (Nat.le_refl _)).more hV.size)
      have HIt:Hid (itsN rs (i + 1)=itsN rs i ++ [⟨((x.getD (9 + 2 * i) 0).toNat:Int),((x.getD (10 + 2 * i) 0).toNat:Int),rs.getD (1 + i) []⟩]):=by
       refine Lib.hid ?_
       rw [itsN_succ,← hx];rfl
      have hu0:(x.getD (9 + 2 * i) 0).toNat < 256:=(x.getD (9 + 2 * i) 0).toNat_lt
      have hu1:(x.getD (10 + 2 * i) 0).toNat < 256:=(x.getD (10 + 2 * i) 0).toNat_lt
      generalize (x.getD (9 + 2 * i) 0).toNat=u0 at HC HIt hu0
      generalize (x.getD (10 + 2 * i) 0).toNat=u1 at HC HIt hu1
      generalize rs.getD (1 + i) []=dat at HD CC HIt
      have k1:IntKind.i64.wrap (2 * (i:Int))=2 * (i:Int):=by rw [IntKind.wrap_i64];omega
      have k2:IntKind.i64.wrap (9 + 2 * (i:Int))=9 + 2 * (i:Int):=by rw [IntKind.wrap_i64];omega
      have k3:(9 + 2 * (i:Int)).toNat=9 + 2 * i:=by omega
      have k4:0 ≤ 9 + 2 * (i:Int)∧9 + 2 * (i:Int) ≤ 32:=by omega
      have k5:¬ c0=9 + 2 * i:=by omega
      have k6:(9 + 2 * (i:Int)) ≤ (c0:Int):=by omega
      have k7:(32:Int) ≤ (c0:Int):=by omega
      have k8:(i:Int) < 3:=by omega
      obtain ⟨L,hL⟩:∃ L,32 - (9 + 2 * i)=L:=⟨_,rfl⟩
      have k9:(1:Int) < (L:Int):=by omega
      have k10:(0:Int) < (L:Int):=by omega
      have k11:0 < L:=by omega
      have k13:IntKind.i64.wrap (u0:Int)=(u0:Int):=by rw [IntKind.wrap_i64];omega
      have k14:IntKind.i64.wrap (u1:Int)=(u1:Int):=by rw [IntKind.wrap_i64];omega
      have k12:1 < L:=by omega
      clear gk hdk
      go_wp2_with fail
      refine wp_region_noPanic (region_ord 17 [] (fun V=>FdS w y v (itsN rs i) V) (by kernel_rfl) (by kernel_rfl) (fun _ _ _ _ _ h=>h) fun R=>?_)
      change anyI _ _ _ _ _ _ 20 _ _ wr.drew
      have HS0:=Lib.hid (show (fun V=>FdS w y v (itsN rs i) V) wr.drew from FdS.drew Hst.out)
      refine' anyI_take R 0 rfl (v:=?_) (by kernel_rfl) (by rfl) (fun V hV=>?hy) HS0.out ?_
      case hy=>((try dsimp only at hV); have qk:=HC.out V hV.2.1;have p0:=qk.1;have p1:=qk.2.1;have p2:=qk.2.2;have p3:=hV.2.2.2.1;go_simp;try with_reducible rfl)
      try simp only [Act.put,List.getElem_toArray,List.getElem_cons_succ,List.getElem_cons_zero,List.setIfInBounds_toArray,List.set_cons_zero,List.set_cons_succ]
      refine' anyI_take R 1 rfl (v:=?_) (by kernel_rfl) (by rfl) (fun V hV=>?hy) HS0.out ?_
      case hy=>((try dsimp only at hV); have qk:=HC.out V hV.2.1;have p0:=qk.1;have p1:=qk.2.1;have p2:=qk.2.2;have p3:=hV.2.2.2.1;go_simp;try with_reducible rfl)
      try simp only [Act.put,List.getElem_toArray,List.getElem_cons_succ,List.getElem_cons_zero,List.setIfInBounds_toArray,List.set_cons_zero,List.set_cons_succ]
      refine' anyI_take R 2 rfl (v:=?_) (by kernel_rfl) (by rfl) (fun V hV=>?hy) HS0.out ?_
      case hy=>((try dsimp only at hV); have qk:=HC.out V hV.2.1;have p0:=qk.1;have p1:=qk.2.1;have p2:=qk.2.2;have p3:=hV.2.2.2.1;go_simp;try with_reducible rfl)
      try simp only [Act.put,List.getElem_toArray,List.getElem_cons_succ,List.getElem_cons_zero,List.setIfInBounds_toArray,List.set_cons_zero,List.set_cons_succ]
      refine' anyI_take R 3 rfl (v:=?_) (by kernel_rfl) (by rfl) (fun V hV=>?hy) HS0.out ?_
      case hy=>((try dsimp only at hV); have qk:=HC.out V hV.2.1;have p0:=qk.1;have p1:=qk.2.1;have p2:=qk.2.2;have p3:=hV.2.2.2.1;go_simp;try with_reducible rfl)
      try simp only [Act.put,List.getElem_toArray,List.getElem_cons_succ,List.getElem_cons_zero,List.setIfInBounds_toArray,List.set_cons_zero,List.set_cons_succ]
      refine' anyI_take R 4 rfl (v:=?_) (by kernel_rfl) (by rfl) (fun V hV=>?hy) HS0.out ?_
      case hy=>((try dsimp only at hV); have qk:=HC.out V hV.2.1;have p0:=qk.1;have p1:=qk.2.1;have p2:=qk.2.2;have p3:=hV.2.2.2.1;go_simp;try with_reducible rfl)
      try simp only [Act.put,List.getElem_toArray,List.getElem_cons_succ,List.getElem_cons_zero,List.setIfInBounds_toArray,List.set_cons_zero,List.set_cons_succ]
      refine' anyI_take R 5 rfl (v:=?_) (by kernel_rfl) (by rfl) (fun V hV=>?hy) HS0.out ?_
      case hy=>((try dsimp only at hV); have qk:=HC.out V hV.2.1;have p0:=qk.1;have p1:=qk.2.1;have p2:=qk.2.2;have p3:=hV.2.2.2.1;go_simp;try with_reducible rfl)
      try simp only [Act.put,List.getElem_toArray,List.getElem_cons_succ,List.getElem_cons_zero,List.setIfInBounds_toArray,List.set_cons_zero,List.set_cons_succ]
      refine' anyI_take R 6 rfl (v:=?_) (by kernel_rfl) (by rfl) (fun V hV=>?hy) HS0.out ?_
      case hy=>((try dsimp only at hV); have qk:=HC.out V hV.2.1;have p0:=qk.1;have p1:=qk.2.1;have p2:=qk.2.2;have p3:=hV.2.2.2.1;go_simp;try with_reducible rfl)
      try simp only [Act.put,List.getElem_toArray,List.getElem_cons_succ,List.getElem_cons_zero,List.setIfInBounds_toArray,List.set_cons_zero,List.set_cons_succ]
      refine' anyI_take R 7 rfl (v:=?_) (by kernel_rfl) (by rfl) (fun V hV=>?hy) HS0.out ?_
      case hy=>((try dsimp only at hV); have qk:=HC.out V hV.2.1;have p0:=qk.1;have p1:=qk.2.1;have p2:=qk.2.2;have p3:=hV.2.2.2.1;go_simp;try with_reducible rfl)
      try simp only [Act.put,List.getElem_toArray,List.getElem_cons_succ,List.getElem_cons_zero,List.setIfInBounds_toArray,List.set_cons_zero,List.set_cons_succ]
      refine' anyI_take R 8 rfl (v:=?_) (by kernel_rfl) (by rfl) (fun V hV=>?hy) HS0.out ?_
      case hy=>((try dsimp only at hV); have qk:=HC.out V hV.2.1;have p0:=qk.1;have p1:=qk.2.1;have p2:=qk.2.2;have p3:=hV.2.2.2.1;go_simp;try with_reducible rfl)
      try simp only [Act.put,List.getElem_toArray,List.getElem_cons_succ,List.getElem_cons_zero,List.setIfInBounds_toArray,List.set_cons_zero,List.set_cons_succ]
      refine' anyI_take R 9 rfl (v:=?_) (by kernel_rfl) (by rfl) (fun V hV=>?hy) HS0.out ?_
      case hy=>((try dsimp only at hV); have qk:=HC.out V hV.2.1;have p0:=qk.1;have p1:=qk.2.1;have p2:=qk.2.2;have p3:=hV.2.2.2.1;go_simp;try with_reducible rfl)
      try simp only [Act.put,List.getElem_toArray,List.getElem_cons_succ,List.getElem_cons_zero,List.setIfInBounds_toArray,List.set_cons_zero,List.set_cons_succ]
      refine' anyI_take R 10 rfl (v:=?_) (by kernel_rfl) (by rfl) (fun V hV=>?hy) HS0.out ?_
      case hy=>((try dsimp only at hV); have qk:=HC.out V hV.2.1;have p0:=qk.1;have p1:=qk.2.1;have p2:=qk.2.2;have p3:=hV.2.2.2.1;go_simp;try with_reducible rfl)
      try simp only [Act.put,List.getElem_toArray,List.getElem_cons_succ,List.getElem_cons_zero,List.setIfInBounds_toArray,List.set_cons_zero,List.set_cons_succ]
      refine' anyI_take R 11 rfl (v:=?_) (by kernel_rfl) (by rfl) (fun V hV=>?hy) HS0.out ?_
      case hy=>((try dsimp only at hV); have qk:=HC.out V hV.2.1;have p0:=qk.1;have p1:=qk.2.1;have p2:=qk.2.2;have p3:=hV.2.2.2.1;go_simp;try with_reducible rfl)
      try simp only [Act.put,List.getElem_toArray,List.getElem_cons_succ,List.getElem_cons_zero,List.setIfInBounds_toArray,List.set_cons_zero,List.set_cons_succ]
      refine' anyI_take R 12 rfl (v:=?_) (by kernel_rfl) (by rfl) (fun V hV=>?hy) HS0.out ?_
      case hy=>((try dsimp only at hV); have qk:=HC.out V hV.2.1;have p0:=qk.1;have p1:=qk.2.1;have p2:=qk.2.2;have p3:=hV.2.2.2.1;go_simp;try with_reducible rfl)
      try simp only [Act.put,List.getElem_toArray,List.getElem_cons_succ,List.getElem_cons_zero,List.setIfInBounds_toArray,List.set_cons_zero,List.set_cons_succ]
      refine' anyI_take R 13 rfl (v:=?_) (by kernel_rfl) (by rfl) (fun V hV=>?hy) HS0.out ?_
      case hy=>((try dsimp only at hV); have qk:=HC.out V hV.2.1;have p0:=qk.1;have p1:=qk.2.1;have p2:=qk.2.2;have p3:=hV.2.2.2.1;go_simp;try with_reducible rfl)
      try simp only [Act.put,List.getElem_toArray,List.getElem_cons_succ,List.getElem_cons_zero,List.setIfInBounds_toArray,List.set_cons_zero,List.set_cons_succ]
      refine anyI_one 14 (by kernel_rfl) rfl ?_
      try simp only [List.getElem_toArray,List.getElem_cons_succ,List.getElem_cons_zero]
      refine opE_step ?_
      rw [if_pos (by rfl)]
      go_simp
      go_at_call 86
      refine (CC.out _ HS0.out.2.1).mono ?_
      rintro e w1 ⟨v1,rfl,OV,hb⟩
      have HZ:=Lib.hid HS0.out.sz
      replace HS0:=Lib.hid (FdS.below HS0.out hb)
      obtain ⟨g1,cp1,rfl,hg1,hgl,hcp,_,hr1⟩:=OV.pos (by rw [HD.out];omega)
      rw [HD.out]
      have Hr1:=Lib.hid hr1
      have Hg1:=Lib.hid (Nat.le_trans HZ.out hg1)
      have HW:=Lib.hid hg1
      rw [HD.out] at hcp
      clear hb OV HZ hr1 hg1
      try dsimp only
      refine ⟨HS0.out,?_⟩
      try simp only [Act.put,List.getElem_toArray,List.getElem_cons_succ,List.getElem_cons_zero,List.setIfInBounds_toArray,List.set_cons_zero,List.set_cons_succ]
      refine' anyI_take R 15 rfl (v:=?_) (by kernel_rfl) (by rfl) (fun V hV=>?hy) HS0.out ?_
      case hy=>((try dsimp only at hV); have qk:=HC.out V hV.2.1;have p0:=qk.1;have p1:=qk.2.1;have p2:=qk.2.2;have p3:=hV.2.2.2.1;go_simp;try with_reducible rfl)
      try simp only [Act.put,List.getElem_toArray,List.getElem_cons_succ,List.getElem_cons_zero,List.setIfInBounds_toArray,List.set_cons_zero,List.set_cons_succ]
      refine anyI_one 16 (by kernel_rfl) rfl ?_
      try simp only [List.getElem_toArray,List.getElem_cons_succ,List.getElem_cons_zero]
      refine opE_step ?_
      rw [if_pos (by rfl)]
      go_simp
      replace HS0:=Lib.hid (FdS.below HS0.out (below1 w1 (.cells #[.int .i64 (u0:Int),.int .i64 (u1:Int),.slice (some ⟨g1,0,none⟩) 32 cp1] 92)))
      try dsimp only
      refine ⟨HS0.out,?_⟩
      try simp only [Act.put,List.getElem_toArray,List.getElem_cons_succ,List.getElem_cons_zero,List.setIfInBounds_toArray,List.set_cons_zero,List.set_cons_succ]
      refine anyI_tail (by kernel_rfl) ?_
      try simp only [List.drop_succ_cons,List.drop_zero]
      clear R
      have HA:=Lib.hid HS0.out
      have HN:=Lib.hid (fun ob (hob:ob=v.ownBlock)=>src_one (w:=w1.alloc (.cells #[.int .i64 (u0:Int),.int .i64 (u1:Int),.slice (some ⟨g1,0,none⟩) 32 cp1] 92)) (lo:=w.heap.size + 2) (g:=w1.heap.size) (ob:=ob) (x:=⟨(u0:Int),(u1:Int),dat⟩) (D:=some ⟨g1,0,none⟩) (c:=cp1) (by dsimp only;rw [HD.out];exact heap_alloc_new _ _) ((Hr1.out.below (below1 w1 _) (Nat.le_refl _)).more (by simp)) (by dsimp only;rw [HD.out];exact hcp) (fun _ a ha=>by
       injection ha with ha
       subst ha
       refine ⟨fun e=>?_,Hg1.out⟩
       rw [hob] at e
       have h1:=(Hst.out.1.lt g1 e.symm).2
       exact absurd (Nat.lt_of_lt_of_le h1 HW.out) (Nat.lt_irrefl _)))
      go_wp2_with (
       ((with_reducible refine (id ?_:wpList _ _ _ (⟨some 60,_,_,_,_,_⟩::_) _ _));refine wpList_append_I _ (by rfl) _ _ _ (by rfl) (w.heap.size + 2) (w.heap.size + 2) 92 Tryz.underlying41 infoI v _ (by rfl) HA.out.1 (some ⟨w1.heap.size,0,none⟩) 1 1 _ (by rfl) (by rfl) (HN.out _ rfl) (by rw [itsN_len];show i + 1 ≤ _;omega) HA.out.sz ?_
        intro v4 w4 O4 g4 _
        obtain ⟨A4,c4,rfl,_,_⟩:=O4.rd
        have H4:=Lib.hid (show FdS w y _ (itsN rs (i + 1)) (w4.setCell ⟨w.heap.size + 1,1,none⟩ (.slice A4 _ c4)) from FdS.put1 HA.out g4 (by rw [HIt.out];exact O4))
        obtain ⟨_,_,_,q3',q4',_⟩:=HA.out.grow g4 (fun k e=>(HA.out.1.lt k e).1) O4
        have q5':=q4' 1
        rw [show (itsN rs i ++ [(⟨(u0:Int),(u1:Int),dat⟩:It)]).length=(itsN rs i).length + 1 from List.length_append] at H4
        clear O4 g4 q4'))
      refine NoPanic.normal ?_
      go_wp2
      go_roundw
      case rel=>exact ⟨i + 1,_,by omega,by go_num,H4.out⟩
      case measure=>simp [intOf];omega
     ·obtain rfl:i=3:=by omega
      obtain ⟨h0,h1,h2,h3,h4,h5,h6,h7⟩:=Hst.out
      have f0:=h7 0
      have f1:=h7 1
      have HF:=Lib.hid (FdS.put_end Hst.out)
      obtain ⟨A5,c5,rfl,_,_⟩:=h0.rd
      clear h0 h1 h4 h7
      go_wp2
      refine bodyPost_ret (v:=.agg #[.int .i64 y,.slice A5 (itsN rs 3).length c5]) (by simp [results,Tryz.results112,go_sem,HF.out.1,HF.out.2.1]) rfl ⟨_,by rw [HY.out],by rw [HI.out];exact HF.out.2.2.1,HF.out.2.2.2⟩
end Go.Proofs.YtenkkdnepmoihaaGreatDoor
end
section
set_option maxRecDepth 8000
set_option linter.unusedVariables false
set_option linter.unusedSimpArgs false
namespace Go.Proofs.YtenkkdnepmoihaaGreatDoor
open Go.RowKit
theorem own_lit {e:TypeId} {W:World} {C:Array Value} {n:Nat} (bs:List UInt8) (hC:C.toList=bs.map bv) (hn:bs.length=n) (h:n ≤ 100000):OwB e (W.alloc (.cells C e)) W.heap.size (.slice (some ⟨W.heap.size,0,none⟩) n n) bs:=by
 subst hn
 have hs:C.size=bs.length:=by rw [← Array.length_toList,hC,List.length_map]
 have hh:=World.ownsRow_lit (base:=W.heap.size) (e:=e) (size:=1) W C bs.length (Nat.le_refl _) (by unfold maxLen;omega) (by omega)
 rw [hC] at hh
 exact ⟨hh,by omega⟩
theorem rd_lit {e:TypeId} {W:World} {C:Array Value} {g:Nat} (bs:List UInt8) (hg:g=W.heap.size) (hC:C.toList=bs.map bv) (h:bs.length ≤ 100000):RdB (W.alloc (.cells C e)) (W.alloc (.cells C e)).heap.size (some ⟨g,0,none⟩) bs:=by
 subst hg
 exact (own_lit (e:=e) bs hC rfl h).rdS.1
theorem byN_u8 {n:Int} (hn:0 ≤ n) (k:Nat) (hk:k < 4):n / 256 ^ k % 256=((byN n k).toNat:Int):=by
 obtain ⟨m,rfl⟩:=Int.eq_ofNat_of_zero_le hn
 match k,hk with
 | 0,_=>simp only [byN,UInt8.toNat_ofNat'];omega
 | 1,_=>simp only [byN,UInt8.toNat_ofNat'];omega
 | 2,_=>simp only [byN,UInt8.toNat_ofNat'];omega
 | 3,_=>simp only [byN,UInt8.toNat_ofNat'];omega
def HdS (w:World) (s:Int) (A:Option Addr) (n c:Nat) (v:Value) (bs:List UInt8) (V:World):Prop :=
 OwB 5 V (w.heap.size + 1) v bs∧Below w.heap.size w V∧V.cell? ⟨w.heap.size,0,none⟩=some (.int .i64 s)∧V.cell? ⟨w.heap.size,1,none⟩=some (.slice A n c)
theorem HdS.alloc {w V:World} {s:Int} {A:Option Addr} {n c:Nat} {v:Value} {bs:List UInt8} (h:HdS w s A n c v bs V) (o:Obj):HdS w s A n c v bs (V.alloc o):=by
 obtain ⟨h0,h1,h2,h3⟩:=h
 have k:=fun (a:Addr) (u:Value) (e:V.cell? a=some u)=>(World.cell?_alloc_lt V o a (World.block_lt_of_cell? _ _ e)).trans e
 exact ⟨h0.below (below1 V o),h1.alloc h1.size o,k _ _ h2,k _ _ h3⟩
theorem HdS.grow {w V V':World} {s:Int} {A:Option Addr} {n c:Nat} {v v':Value} {bs bs':List UInt8} (h:HdS w s A n c v bs V) (ho:OwB 5 V' (w.heap.size + 1) v' bs') (hg:V.grownBy V' v.ownBlock):HdS w s A n c v' bs' V':=by
 obtain ⟨h0,h1,h2,h3⟩:=h
 have hne:∀ j,v.ownBlock=some j→w.heap.size + 1 ≤ j:=fun j hj=>(h0.lt j hj).1
 have k:=fun (i:Nat) (u:Value) (e:V.cell? ⟨w.heap.size,i,none⟩=some u)=>(World.cell?_of_block (a:=⟨w.heap.size,i,none⟩) (hg.block w.heap.size (World.block_lt_of_cell? _ _ e) (fun e'=>by have:=hne _ e'.symm;omega))).trans e
 exact ⟨ho,h1.grown hg h1.size (fun j hj=>by have:=hne j hj;omega),k _ _ h2,k _ _ h3⟩
theorem hd_box (w:World) (s:Int) (A:Option Addr) (n c:Nat) (C C2:Array Value) (f:Nat × Nat) (bs:List UInt8) (hC:C.toList=bs.map bv) (h:bs.length ≤ 100000) :
    ∃ W,W=((w.alloc (.cells #[.int .i64 s,.slice A n c] 43)).alloc (.cells C 5 f)).alloc (.cells C2 5)∧RdB W W.heap.size (some ⟨w.heap.size + 1,0,none⟩) bs∧HdS w s A n c (.slice none 0 0) [] W:=by
 refine ⟨_,rfl,?_,?_⟩
 ·refine rdb_lit (cs:=C) (t:=5) (f:=f) ?_ (by omega) hC
  rw [heap_alloc_old _ _ (by simp)]
  exact hp_new _ _ _ (by simp)
 ·have S0:HdS w s A n c (.slice none 0 0) [] (w.alloc (.cells #[.int .i64 s,.slice A n c] 43)):=by
    have c':=fun i=>cell_of_row _ _ i _ _ _ (heap_alloc_new w (.cells #[.int .i64 s,.slice A n c] 43))
    exact ⟨OwB.nil _ _ _,below1 _ _,c' 0,c' 1⟩
  exact (S0.alloc _).alloc _
theorem hdB_take (s:Int) (l:List It):hdB s l=[87,82,69,67] ++ [byN s 3,byN s 2,byN s 1,byN s 0] ++ [UInt8.ofNat l.length] ++ plcB l:=rfl
theorem plcB_take {l:List It} {j:Nat} (hj:j < l.length):plcB (l.take (j + 1))=plcB (l.take j) ++ [byN (itN l j).d 0,byN (itN l j).a 0]:=by
 rw [its_take hj,plcB_snoc]
set_option maxHeartbeats 2000000 in
theorem head_any (A:Option Addr) (n c:Nat) (s:Int) (l:List It) (w:World) (hn:l.length=n) (hnc:n ≤ c) (h:RdI w w.heap.size A l) (hk:recOk s l=true) :
    Calls Tryz.prog 92 #[.agg #[.int .i64 s,.slice A n c]] w fun e w'=>∃ v,e=.returned v∧OwB 5 w' w.heap.size v (hdB s l)∧Below w.heap.size w w':=by
 subst hn
 have H:=Lib.hid h
 obtain ⟨⟨hs1,hs2,hs3⟩,_⟩:=(recOk_iff s l).1 hk
 have HK:=Lib.hid (fun (j:Nat) (hj:j < l.length)=>recOk_may hk _ (itN_mem hj))
 clear h hk
 have HH:=Lib.hid (hdB_take s l)
 have HT:=Lib.hid (fun (j:Nat) (hj:j < l.length)=>plcB_take hj)
 have e3:s / 16777216=((byN s 3).toNat:Int):=by have:=byN_u8 (n:=s) (by omega) 3 (by omega);omega
 have e2:s / 65536 % 256=((byN s 2).toNat:Int):=byN_u8 (by omega) 2 (by omega)
 have e1:s / 256 % 256=((byN s 1).toNat:Int):=byN_u8 (by omega) 1 (by omega)
 have e0:s % 256=((byN s 0).toNat:Int):=by have:=byN_u8 (n:=s) (by omega) 0 (by omega);omega
 generalize byN s 3=b3 at e3 HH
 generalize byN s 2=b2 at e2 HH
 generalize byN s 1=b1 at e1 HH
 generalize byN s 0=b0 at e0 HH
 have el:(l.length:Int)=((UInt8.ofNat l.length).toNat:Int):=by rw [UInt8.toNat_ofNat'];omega
 generalize UInt8.ofNat l.length=bl at el HH
 have El:=Lib.hid el
 clear el
 have hcv:=conv_const (w.alloc (.cells #[.int .i64 s,.slice A l.length c] 43)) (w.heap.size + 1) #[.int .u8 87,.int .u8 82,.int .u8 69,.int .u8 67] 4 4 (by simp)
 obtain ⟨W,hW,hrd,hs0⟩:=hd_box w s A l.length c #[.int .u8 87,.int .u8 82,.int .u8 69,.int .u8 67] #[.int .u8 (b3.toNat:Int),.int .u8 (b2.toNat:Int),.int .u8 (b1.toNat:Int),.int .u8 (b0.toNat:Int)] (4,5) [87,82,69,67] rfl (by simp)
 have hrd2:RdB W W.heap.size (some ⟨w.heap.size + 2,0,none⟩) [b3,b2,b1,b0]:=by subst hW;exact rd_lit _ (by simp) rfl (by simp)
 have HW:=Lib.hid hW
 have HR:=Lib.hid hrd
 have HR2:=Lib.hid hrd2
 have S0:=Lib.hid hs0
 clear hW hrd hrd2 hs0
 go_enter Tryz.func92,Tryz.ntmps92
 go_wp2_with (first
  |((with_reducible refine (id ?_:wpList _ _ _ (⟨some 25,_,_,_,_,_⟩::_) _ _));rw [← show W=_ from HW.out];refine wpList_append_F _ rfl _ _ _ rfl 5 Tryz.underlying35 info_u8 (some ⟨w.heap.size + 1,0,none⟩) 4 _ _ rfl rfl (by omega) HR.out (some ⟨w.heap.size + 2,0,none⟩) 4 4 _ [b3,b2,b1,b0] rfl rfl (by simp) HR2.out (by simp) ?_
    intro v1 w1 O1 hb1
    have H1:=Lib.hid (show HdS w s A l.length c v1 ([87,82,69,67] ++ [b3,b2,b1,b0]) w1 from (S0.out.grow (v':=v1) (O1.le (by have:=S0.out.2.1.size;have:=World.block_lt_of_cell? _ _ S0.out.2.2.1;exact this)) (grown_none hb1)))
    clear hcv HW HR HR2 S0 O1 hb1 e3 e2 e1 e0
    obtain ⟨C1,F1,q0,q1⟩:=H1.out
    have hz1:=World.block_lt_of_cell? _ _ q0
    have hz2:w.heap.size + 1 ≤ w1.heap.size:=hz1
    clear C1)
  |((with_reducible refine (id ?_:wpList _ _ _ (⟨some 32,_,_,_,_,_⟩::_) _ _));refine wpList_append_B _ rfl _ _ _ rfl (w.heap.size + 1) 5 Tryz.underlying35 info_u8 _ _ rfl (H1.out.alloc _).1 _ (some ⟨w1.heap.size,0,none⟩) 1 1 [bl] rfl rfl (rd_lit _ rfl (by simp [bv,El.out]) (by simp)) (by simp) (by simp;omega) ?_
    intro v2 w2 O2 g2 _
    have H2:=Lib.hid ((H1.out.alloc _).grow O2 g2)
    clear O2 g2 q0 q1 hz1 hz2 F1 H1
    obtain ⟨C1,F1,q0,q1⟩:=H2.out
    have hz1:=World.block_lt_of_cell? _ _ q0
    have hz2:w.heap.size + 1 ≤ w2.heap.size:=hz1
    clear C1))
 go_loopw [3,36] (fun v i wr=>∃ j:Nat,j ≤ l.length∧i=.int .i64 j∧HdS w s A l.length c v ([87,82,69,67] ++ [b3,b2,b1,b0] ++ [bl] ++ plcB (l.take j)) wr) (fun _ i _=>l.length - (intOf i).toNat)
 case atStart=>exact ⟨0,Nat.zero_le _,rfl,by rw [List.take_zero,show plcB []=[] from rfl,List.append_nil];exact H2.out⟩
 case round =>
  obtain ⟨j,hj,rfl,hst⟩:=hrel
  have Hst:=Lib.hid hst
  obtain ⟨C3,F3,q0',q1'⟩:=hst
  have hz3:=World.block_lt_of_cell? _ _ q0'
  have hz4:w.heap.size + 1 ≤ wr.heap.size:=hz3
  clear C3 H2 q0 q1 hz1 hz2 F1
  by_cases hlt:j < l.length
  ·obtain ⟨g,rfl,hg,hc⟩:=(H.out.below F3 (Nat.le_refl _)).2 (by omega)
   obtain ⟨D',c',hrp,_⟩:=hc j hlt
   clear hc
   have hk:=HK.out j hlt
   have Ht:=Lib.hid (HT.out j hlt)
   generalize itN l j=y at hrp hk Ht
   obtain ⟨d,a,b⟩:=y
   dsimp only at hrp hk Ht
   have ed:d=((byN d 0).toNat:Int):=by have:=byX_one (n:=d) (by omega);omega
   have ea:a=((byN a 0).toNat:Int):=by have:=byX_one (n:=a) (by omega);omega
   generalize byN d 0=ub at ed Ht
   generalize byN a 0=uc at ea Ht
   subst ed ea
   have Hrp:=Lib.hid hrp
   have mu:(ub.toNat:Int) % 256=(ub.toNat:Int):=by have:ub.toNat < 256:=ub.toNat_lt;omega
   have mc:(uc.toNat:Int) % 256=(uc.toNat:Int):=by have:uc.toNat < 256:=uc.toNat_lt;omega
   have HA:=Lib.hid (Hst.out.alloc (.cells #[.int .i64 (ub.toNat:Int),.int .i64 (uc.toNat:Int),.slice D' b.length c'] 92))
   have HA2:=Lib.hid (HA.out.alloc (.cells #[.int .u8 (ub.toNat:Int),.int .u8 (uc.toNat:Int)] 5))
   have k0:(0:Int) ≤ (j:Int):=by omega
   have k1:(j:Int) < (l.length:Int):=by omega
   have hpl:(plcB (l.take j)).length ≤ 6:=by rw [plcB_len];simp;omega
   clear hrp hk HA
   go_wp2_with (first
    |((with_reducible refine (id ?_:wpList _ _ _ (⟨some 39,_,_,_,_,_⟩::_) _ _));refine wpList_load_mid rfl 92 _ (by rfl) g (j * 3) (by rfl) [.int .i64 (ub.toNat:Int),.int .i64 (uc.toNat:Int),.slice D' b.length c'] _ Hrp.out Tryz.underlying92 rfl (by kernel_rfl) ?_)
    |((with_reducible refine (id ?_:wpList _ _ _ (⟨some 48,_,_,_,_,_⟩::_) _ _));refine wpList_append_B _ rfl _ _ _ rfl (w.heap.size + 1) 5 Tryz.underlying35 info_u8 _ _ rfl HA2.out.1 _ (some ⟨wr.heap.size + 1,0,none⟩) 2 2 [ub,uc] rfl rfl (rd_lit _ (by simp) rfl (by simp)) (by simp;omega) (by simp;omega) ?_
      intro v4 w4 O4 g4 _
      have H4:=Lib.hid (HA2.out.grow O4 g4)
      clear O4 g4))
   go_roundw
   case rel=>exact ⟨j + 1,by omega,by go_num,by rw [Ht.out,← List.append_assoc];exact H4.out⟩
   case measure=>simp [intOf];omega
  ·obtain rfl:j=l.length:=by omega
   go_wp2
   go_ret
   exact ⟨_,rfl,by rw [HH.out];have:=Hst.out.1.le (Nat.le_succ _);rwa [List.take_length] at this,F3⟩
end Go.Proofs.YtenkkdnepmoihaaGreatDoor
end
