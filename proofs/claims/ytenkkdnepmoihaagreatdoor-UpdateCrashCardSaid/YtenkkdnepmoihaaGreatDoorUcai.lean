/- Texts put together: RecBox, RecMay, OwnIt. -/
import Derived.Test.YtenkkdnepmoihaaGreatDoorProg
import Derived.Test.YtenkkdnepmoihaaGreatDoorUcag
import Derived.Test.YtenkkdnepmoihaaGreatDoorUcaa
import Derived.Test.YtenkkdnepmoihaaGreatDoorUcae
import Derived.Deep.MidRow
import Derived.Laws.AppendOwnNone
import Derived.Maps.AppendAt
section
set_option linter.unusedVariables false
set_option linter.unusedSimpArgs false
namespace Go.Proofs.YtenkkdnepmoihaaGreatDoor
open Go.RowKit
theorem rx_cell_at {w:World} {B g n cap:Nat} {e:TypeId} {size:Nat} {xs:List Value} (h:w.ownsRow B e size (.slice (some ⟨g,0,none⟩) n cap) n xs) (j:Nat) (hj:j < xs.length):w.cell? ⟨g,j,none⟩=xs[j]?:=by
 rcases h.2 with ⟨h1,_⟩ | ⟨g',cap',cur,h1,h2,h3,h4,h5,h6,h7⟩
 ·cases h1
 ·injection h1 with h8 _ h9
  injection h8 with h8
  injection h8 with h8 _ _
  subst h8 h9
  have hx:=h.1
  rw [cell_of_row w g j cur e (0,0) h3,← h7,List.getElem?_take,if_pos (by omega),Array.getElem?_toList]
theorem rx_form {w:World} {B n:Nat} {e:TypeId} {size:Nat} {v:Value} {xs:List Value} (h:w.ownsRow B e size v n xs):∃ A c,v=.slice A n c∧n ≤ c∧(0 < n→∃ g,A=some ⟨g,0,none⟩∧B ≤ g):=by
 rcases h.2 with ⟨rfl,rfl⟩ | ⟨g,cap,cur,rfl,hB,_,hc,_⟩
 ·exact ⟨none,0,rfl,Nat.le_refl _,fun h=>by omega⟩
 ·exact ⟨_,cap,rfl,hc,fun _=>⟨g,rfl,hB⟩⟩
theorem rangeAt_keep {w w':World} {b o:Nat} {cs:List Value} (h:w.rangeAt b o cs) (hk:∀ k,w'.cell? ⟨b,k,none⟩=w.cell? ⟨b,k,none⟩):w'.rangeAt b o cs:=fun j v hj=>(hk _).trans (h j v hj)
def itcs:List It→List Value→List Value
 | x::l,u::xs=>.int .i64 x.d::.int .i64 x.a::u::itcs l xs
 | _,_=>[]
theorem itcs_len:∀ (l:List It) (xs:List Value),xs.length=l.length→(itcs l xs).length=l.length * 3
 | [],xs,_=>by simp [itcs]
 | x::l,[],h=>by simp at h
 | x::l,u::xs,h=>by
   have:=itcs_len l xs (by simpa using h)
   simp only [itcs,List.length_cons];omega
theorem itcs_get:∀ (l:List It) (xs:List Value) (k:Nat) (u:Value),xs.length=l.length→xs[k]?=some u→∀ j,j < 3→(itcs l xs)[k * 3 + j]?=[.int .i64 (itN l k).d,.int .i64 (itN l k).a,u][j]?
 | [],[],k,u,_,h,_,_=>by simp at h
 | [],_::_,_,_,h,_,_,_=>by simp at h
 | _::_,[],_,_,h,_,_,_=>by simp at h
 | x::l,v::xs,0,u,_,h,j,hj=>by
   obtain rfl:v=u:=by simpa using h
   match j,hj with
   | 0,_=>rfl
   | 1,_=>rfl
   | 2,_=>rfl
 | x::l,v::xs,k + 1,u,hl,h,j,hj=>by
   have:=itcs_get l xs k u (by simpa using hl) (by simpa using h) j hj
   rw [show (k + 1) * 3 + j=k * 3 + j + 1 + 1 + 1 by omega]
   exact this
def Its64 (l:List It):Prop:=∀ k,k < l.length→It64 (itN l k)
def RdI (w:World) (B:Nat) (A:Option Addr) (l:List It):Prop :=
 l.length ≤ 140737488355328∧(0 < l.length→∃ b,A=some ⟨b,0,none⟩∧b < B∧∀ k,k < l.length→∃ D c,w.rangeAt b (k * 3) [.int .i64 (itN l k).d,.int .i64 (itN l k).a,.slice D (itN l k).b.length c]∧RdB w B D (itN l k).b)
theorem RdI.keep {w w':World} {B B':Nat} {A:Option Addr} {l:List It} (h:RdI w B A l) (hB:B ≤ B') (hk:∀ p:Addr,p.block < B→w'.cell? p=w.cell? p):RdI w' B' A l :=
 ⟨h.1,fun hn=>by
  obtain ⟨b,e,hb,hc⟩:=h.2 hn
  refine ⟨b,e,by omega,fun k hk'=>?_⟩
  obtain ⟨D,c,h1,h2⟩:=hc k hk'
  exact ⟨D,c,rangeAt_keep h1 fun j=>hk ⟨b,j,none⟩ hb,h2.keep hB hk⟩⟩
theorem RdI.below {w w':World} {B B':Nat} {A:Option Addr} {l:List It} (h:RdI w B A l) (hb:Below B' w w') (hB:B ≤ B'):RdI w' B A l:=h.keep (Nat.le_refl _) fun p hp=>hb.cell (by omega)
theorem RdI.more {w:World} {B B':Nat} {A:Option Addr} {l:List It} (h:RdI w B A l) (hB:B ≤ B'):RdI w B' A l:=h.keep hB fun _ _=>rfl
theorem RdI.later {w w':World} {A:Option Addr} {l:List It} (h:RdI w w.heap.size A l) (hb:Below w.heap.size w w'):RdI w' w'.heap.size A l:=(h.below hb (Nat.le_refl _)).more hb.size
theorem RdI.nil (w:World) (B:Nat) (A:Option Addr):RdI w B A []:=⟨by simp,fun h=>by simp at h⟩
theorem itN_take {l:List It} {i k:Nat} (h:k < i):itN (l.take i) k=itN l k:=by
 simp [itN,List.getD_eq_getElem?_getD,h]
theorem RdI.take {w:World} {B:Nat} {A:Option Addr} {l:List It} (h:RdI w B A l) (i:Nat):RdI w B A (l.take i) :=
 ⟨by have:=h.1;simp;omega,fun hn=>by
  have hn':0 < l.length:=by simp at hn;omega
  obtain ⟨b,e,hb,hc⟩:=h.2 hn'
  refine ⟨b,e,hb,fun k hk=>?_⟩
  have hk':k < i∧k < l.length:=by simp at hk;omega
  rw [itN_take hk'.1]
  exact hc k hk'.2⟩
theorem itB_get {l:List It} {k:Nat} (hk:k < l.length):(l.map (·.b)).getD k []=(itN l k).b:=by
 simp [itN,List.getD_eq_getElem?_getD,hk]
end Go.Proofs.YtenkkdnepmoihaaGreatDoor
end
section
set_option linter.unusedVariables false
set_option linter.unusedSimpArgs false
namespace Go.Proofs.YtenkkdnepmoihaaGreatDoor
open Go.RowKit
theorem unlike_any (A:Option Addr) (n c:Nat) (w:World) (r:Bool) (hr:((n:Int) != 32)=r) :
    Calls Tryz.prog 111 #[.slice A n c] w fun e w'=>e=.returned (.bool r)∧w'=w:=by
 subst hr
 go_enter Tryz.func111,Tryz.ntmps111
 go_wp2
 go_ret
 exact ⟨rfl,rfl⟩
theorem may_any (x:It) (A:Option Addr) (n c:Nat) (w:World) (hn:x.b.length=n) (h:It64 x) :
    Calls Tryz.prog 97 #[.agg #[.int .i64 x.d,.int .i64 x.a,.slice A n c]] w fun e w'=>e=.returned (.bool (mayB x))∧Below w.heap.size w w':=by
 have HM:=Lib.hid (mayB_iff x)
 obtain ⟨hd,ha⟩:=h
 rw [hn] at HM
 obtain ⟨d,a,b⟩:=x
 dsimp only at *
 have hn':=Lib.hid hn
 clear hn
 generalize mayB ⟨d,a,b⟩=m at HM
 have B1:=Lib.hid (below1 w (.cells #[.int .i64 d,.int .i64 a,.slice A n c] 92))
 have HY:Hid ((0 ≤ d∧d < 8∧36 ≤ a∧a < 52∧n=32)→m=true):=fun q=>HM.out.2 q
 have HN:Hid (¬ (0 ≤ d∧d < 8∧36 ≤ a∧a < 52∧n=32)→m=false):=fun q=>by
  rw [← Bool.not_eq_true];exact fun e=>q (HM.out.1 e)
 clear HM
 by_cases h1:0 ≤ d
 ·by_cases h2:d < 8
  ·by_cases h3:36 ≤ a
   ·by_cases h4:a < 52
    ·by_cases h5:n=32
     ·have R:=Lib.hid (HY.out ⟨h1,h2,h3,h4,h5⟩)
      have CU:=Lib.hid fun W=>unlike_any A n c W false (by rw [h5];rfl)
      clear h5
      go_enter Tryz.func97,Tryz.ntmps97
      go_wp2_with (go_at_call 111;refine (CU.out _).mono ?_;rintro e w' ⟨rfl,rfl⟩)
      go_ret
      exact ⟨by rw [R.out];rfl,B1.out⟩
     ·have R:=Lib.hid (HN.out (by omega))
      have CU:=Lib.hid fun W=>unlike_any A n c W true (by rw [bne_iff_ne];omega)
      clear h5
      go_enter Tryz.func97,Tryz.ntmps97
      go_wp2_with (go_at_call 111;refine (CU.out _).mono ?_;rintro e w' ⟨rfl,rfl⟩)
      go_ret
      exact ⟨by rw [R.out];rfl,B1.out⟩
    ·have R:=Lib.hid (HN.out (by omega))
     go_enter Tryz.func97,Tryz.ntmps97
     go_wp2
     go_ret
     exact ⟨by rw [R.out];rfl,B1.out⟩
   ·have R:=Lib.hid (HN.out (by omega))
    go_enter Tryz.func97,Tryz.ntmps97
    go_wp2
    go_ret
    exact ⟨by rw [R.out];rfl,B1.out⟩
  ·have R:=Lib.hid (HN.out (by omega))
   go_enter Tryz.func97,Tryz.ntmps97
   go_wp2
   go_ret
   exact ⟨by rw [R.out];rfl,B1.out⟩
 ·have R:=Lib.hid (HN.out (by omega))
  go_enter Tryz.func97,Tryz.ntmps97
  go_wp2
  go_ret
  exact ⟨by rw [R.out];rfl,B1.out⟩
theorem meets_any (x y:It) (A A':Option Addr) (n c n' c':Nat) (w:World) :
    Calls Tryz.prog 99 #[.agg #[.int .i64 x.d,.int .i64 x.a,.slice A n c],.agg #[.int .i64 y.d,.int .i64 y.a,.slice A' n' c']] w fun e w'=>e=.returned (.bool (meetsB x y))∧Below w.heap.size w w':=by
 have HM:=Lib.hid (meetsB_iff x y)
 obtain ⟨d,a,b⟩:=x
 obtain ⟨d',a',b'⟩:=y
 dsimp only at *
 generalize meetsB ⟨d,a,b⟩ ⟨d',a',b'⟩=m at HM
 have B1:=Lib.hid (below2 w (.cells #[.int .i64 d,.int .i64 a,.slice A n c] 92) (.cells #[.int .i64 d',.int .i64 a',.slice A' n' c'] 92))
 have HN:Hid (¬ (d=d'∧a=a')→m=false):=fun q=>by
  rw [← Bool.not_eq_true];exact fun e=>q (HM.out.1 e)
 by_cases h1:d=d'
 ·by_cases h2:a=a'
  ·have R:=Lib.hid (HM.out.2 ⟨h1,h2⟩)
   have e1:(d == d')=true:=by rw [h1];exact beq_self_eq_true _
   have e2:(a == a')=true:=by rw [h2];exact beq_self_eq_true _
   clear h1 h2
   go_enter Tryz.func99,Tryz.ntmps99
   go_wp2
   go_ret
   exact ⟨by rw [R.out];rfl,B1.out⟩
  ·have R:=Lib.hid (HN.out (fun q=>h2 q.2))
   have e1:(d == d')=true:=by rw [h1];exact beq_self_eq_true _
   have e2:(a == a')=false:=beq_eq_false_iff_ne.2 h2
   clear h1 h2
   go_enter Tryz.func99,Tryz.ntmps99
   go_wp2
   go_ret
   exact ⟨by rw [R.out];rfl,B1.out⟩
 ·have R:=Lib.hid (HN.out (fun q=>h1 q.1))
  have e1:(d == d')=false:=beq_eq_false_iff_ne.2 h1
  clear h1
  go_enter Tryz.func99,Tryz.ntmps99
  go_wp2
  go_ret
  exact ⟨by rw [R.out];rfl,B1.out⟩
end Go.Proofs.YtenkkdnepmoihaaGreatDoor
end
section
set_option linter.unusedVariables false
set_option linter.unusedSimpArgs false
namespace Go.Proofs.YtenkkdnepmoihaaGreatDoor
open Go.RowKit
def RowsL (w:World) (lo:Nat) (ob:Option Nat) (xs:List Value) (rs:List (List UInt8)):Prop :=
 xs.length=rs.length∧∀ k,k < rs.length→∃ A c,xs[k]?=some (.slice A (rs.getD k []).length c)∧(rs.getD k []).length ≤ c∧RdB w w.heap.size A (rs.getD k [])∧(0 < (rs.getD k []).length→∀ a,A=some a→some a.block ≠ ob∧lo ≤ a.block)
section
variable {w w':World} {lo:Nat} {ob ob':Option Nat} {xs ys:List Value} {rs qs:List (List UInt8)}
theorem RowsL.nil (w:World) (lo:Nat) (ob:Option Nat):RowsL w lo ob [] []:=⟨rfl,fun k hk=>by simp at hk⟩
theorem RowsL.le {lo':Nat} (h:RowsL w lo ob xs rs) (hl:lo' ≤ lo):RowsL w lo' ob xs rs :=
 ⟨h.1,fun k hk=>by
  obtain ⟨A,c,h1,hc,h2,h3⟩:=h.2 k hk
  exact ⟨A,c,h1,hc,h2,fun h0 a ha=>⟨(h3 h0 a ha).1,Nat.le_trans hl (h3 h0 a ha).2⟩⟩⟩
theorem RowsL.grown {row:Option Nat} (h:RowsL w lo ob xs rs) (hg:w.grownBy w' row) (hr:row=ob∨∃ q,row=some q∧q < lo) (ho:ob'=ob∨ob'=some w.heap.size):RowsL w' lo ob' xs rs :=
 ⟨h.1,fun k hk=>by
  obtain ⟨A,c,h1,hcap,h2,h3⟩:=h.2 k hk
  refine ⟨A,c,h1,hcap,⟨h2.1,fun h0=>?_⟩,fun h0 a ha=>⟨?_,(h3 h0 a ha).2⟩⟩
  ·obtain ⟨b,off,e,hb,hc⟩:=h2.2 h0
   have hne:=h3 h0 _ e
   have hne2:some b ≠ row:=by
    rcases hr with rfl | ⟨q,rfl,hq⟩
    ·exact hne.1
    ·intro e;injection e with e;have:lo ≤ b:=hne.2;omega
   refine ⟨b,off,e,by have:=hg.size;omega,fun j hj=>?_⟩
   rw [← hc j hj]
   exact World.cell?_of_block (w:=w) (hg.block b hb hne2)
  ·rcases ho with rfl | rfl
   ·exact (h3 h0 a ha).1
   ·obtain ⟨b,off,e,hb,hc⟩:=h2.2 h0
    rw [ha] at e
    injection e with e
    subst e
    intro e
    injection e with e
    simp at e
    omega⟩
theorem RowsL.below (h:RowsL w lo ob xs rs) (hb:Below w.heap.size w w'):RowsL w' lo ob xs rs :=
 ⟨h.1,fun k hk=>by
  obtain ⟨A,c,h1,hcap,h2,h3⟩:=h.2 k hk
  exact ⟨A,c,h1,hcap,(h2.below hb (Nat.le_refl _)).more hb.size,h3⟩⟩
theorem RowsL.app (h:RowsL w lo ob xs rs) (h':RowsL w lo ob ys qs):RowsL w lo ob (xs ++ ys) (rs ++ qs) :=
 ⟨by simp [h.1,h'.1],fun k hk=>by
  by_cases hk2:k < rs.length
  ·have e:(rs ++ qs).getD k []=rs.getD k []:=by simp [List.getD_eq_getElem?_getD,List.getElem?_append_left hk2]
   rw [e,List.getElem?_append_left (by rw [h.1];exact hk2)]
   exact h.2 k hk2
  ·have e:(rs ++ qs).getD k []=qs.getD (k - rs.length) []:=by simp [List.getD_eq_getElem?_getD,List.getElem?_append_right (show rs.length ≤ k by omega)]
   rw [e,List.getElem?_append_right (by rw [h.1];omega),h.1]
   exact h'.2 _ (by simp at hk;omega)⟩
theorem RowsL.one {A:Option Addr} {c:Nat} {b:List UInt8} (hr:RdB w w.heap.size A b) (hc:b.length ≤ c) (hne:0 < b.length→∀ a,A=some a→some a.block ≠ ob∧lo ≤ a.block):RowsL w lo ob [.slice A b.length c] [b] :=
 ⟨rfl,fun k hk=>by
  obtain rfl:k=0:=by simp at hk;omega
  exact ⟨A,c,rfl,hc,hr,hne⟩⟩
end
theorem itcs_app:∀ (l l2:List It) (xs xs2:List Value),xs.length=l.length→itcs (l ++ l2) (xs ++ xs2)=itcs l xs ++ itcs l2 xs2
 | [],_,[],_,_=>rfl
 | [],_,_::_,_,h=>by simp at h
 | _::_,_,[],_,h=>by simp at h
 | y::l,l2,u::xs,xs2,h=>by
   have:=itcs_app l l2 xs xs2 (by simpa using h)
   simp only [List.cons_append,itcs,this]
theorem itcs_one:∀ (l:List It) (xs:List Value),(∀ u ∈ xs,u.oneCell'=true)→∀ u ∈ itcs l xs,u.oneCell'=true
 | [],_,_,u,hu=>by simp [itcs] at hu
 | _::_,[],_,u,hu=>by simp [itcs] at hu
 | x::l,v::xs,h,u,hu=>by
   simp only [itcs,List.mem_cons] at hu
   rcases hu with rfl | rfl | rfl | hu
   ·rfl
   ·rfl
   ·exact h _ (List.mem_cons_self ..)
   ·exact itcs_one l xs (fun u hu=>h u (List.mem_cons_of_mem _ hu)) u hu
theorem RowsL.ones {w:World} {lo:Nat} {ob:Option Nat} {xs:List Value} {rs:List (List UInt8)} (h:RowsL w lo ob xs rs):∀ u ∈ xs,u.oneCell'=true:=fun u hu=>by
 obtain ⟨k,hk,rfl⟩:=List.getElem_of_mem hu
 obtain ⟨A,c,h1,_⟩:=h.2 k (by rw [← h.1];exact hk)
 rw [List.getElem?_eq_getElem hk] at h1
 injection h1 with h1
 rw [h1];rfl
def OwIt (e:TypeId) (w:World) (B lo:Nat) (v:Value) (l:List It):Prop :=
 ∃ xs,w.ownsRow B e 3 v l.length (itcs l xs)∧RowsL w lo v.ownBlock xs (l.map (·.b))∧l.length ≤ 1000000
section
variable {e:TypeId} {w w':World} {B lo:Nat} {v:Value} {l:List It}
theorem OwIt.nil (e:TypeId) (w:World) (B lo:Nat):OwIt e w B lo (.slice none 0 0) []:=⟨[],World.ownsRow_nil _ _ _ _,RowsL.nil _ _ _,by simp⟩
theorem OwIt.rd (h:OwIt e w B lo v l):∃ A c,v=.slice A l.length c∧l.length ≤ c∧RdI w w.heap.size A l:=by
 obtain ⟨xs,h1,h2,h3⟩:=h
 obtain ⟨A,c,rfl,hc,hg⟩:=rx_form h1
 refine ⟨A,c,rfl,hc,by omega,fun hn=>?_⟩
 obtain ⟨g,rfl,hB⟩:=hg hn
 refine ⟨g,rfl,(h1.lt g rfl).2,fun k hk=>?_⟩
 obtain ⟨D,c',hx,_,hr,_⟩:=h2.2 k (by simpa using hk)
 rw [itB_get hk] at hx hr
 have hxl:xs.length=l.length:=by have:=h2.1;simpa using this
 refine ⟨D,c',fun j u hj=>?_,hr⟩
 have hj3:j < 3:=(List.getElem?_eq_some_iff.1 hj).1
 rw [rx_cell_at h1 _ (by rw [itcs_len _ _ hxl];omega),itcs_get l xs k _ hxl hx j hj3]
 exact hj
theorem OwIt.lt (h:OwIt e w B lo v l):∀ k,v.ownBlock=some k→B ≤ k∧k < w.heap.size:=by
 obtain ⟨xs,h1,_⟩:=h;exact h1.lt
theorem OwIt.below (h:OwIt e w B lo v l) (hb:Below w.heap.size w w'):OwIt e w' B lo v l:=by
 obtain ⟨xs,h1,h2,h3⟩:=h
 exact ⟨xs,h1.kept (grown_none hb) (Classical.em _),h2.below hb,h3⟩
theorem OwIt.far {q:Nat} (h:OwIt e w B lo v l) (hg:w.grownBy w' (some q)) (hB:q < B) (hl:q < lo):OwIt e w' B lo v l:=by
 obtain ⟨xs,h1,h2,h3⟩:=h
 refine ⟨xs,h1.kept hg (.inr fun e=>?_),h2.grown hg (.inr ⟨q,rfl,hl⟩) (.inl rfl),h3⟩
 have:=(h1.lt q e).1;omega
theorem OwIt.le {B' lo':Nat} (h:OwIt e w B lo v l) (hB:B' ≤ B) (hl:lo' ≤ lo):OwIt e w B' lo' v l:=by
 obtain ⟨xs,h1,h2,h3⟩:=h
 refine ⟨xs,⟨h1.1,?_⟩,h2.le hl,h3⟩
 rcases h1.2 with h1 | ⟨g,cap,cur,h1,h2,r⟩
 ·exact .inl h1
 ·exact .inr ⟨g,cap,cur,h1,by omega,r⟩
end
def SrcI (w:World) (lo:Nat) (ob:Option Nat) (A:Option Addr) (l:List It):Prop :=
 (A=none∧l=[])∨∃ ad xs,A=some ad∧RowsL w lo ob xs (l.map (·.b))∧∀ j u,(itcs l xs)[j]?=some u→w.cell? (ad.add j)=some u
section
variable {P:Program} (w:World)
theorem run_append_I (base lo:Nat) (t ty e:TypeId) (ht:P.underlying t=some (.slice e)) (hinfo:(P.info? e).map (fun i=>(i.zero,i.size,i.bytes))=some (some (.agg #[.int .i64 0,.int .i64 0,.slice none 0 0]),3,40))
    (v:Value) (l:List It) (hown:OwIt e w base lo v l) (A:Option Addr) (m c:Nat) (l2:List It) (hm:m=l2.length) (hs:SrcI w lo v.ownBlock A l2) (hn:l.length + l2.length ≤ 1000000) (hbase:base ≤ w.heap.size) :
    ∃ v' w',(Builtin.append_ #[t,t] ty #[v,.slice A m c]).run P w=.ok v' w'∧OwIt e w' base lo v' (l ++ l2)∧w.grownBy w' v.ownBlock∧(v'.ownBlock=v.ownBlock∨v'.ownBlock=some w.heap.size):=by
 subst hm
 obtain ⟨i,hi,hzz⟩:=Option.map_eq_some_iff.1 hinfo
 simp only [Prod.mk.injEq] at hzz
 obtain ⟨hz,hs',hb⟩:=hzz
 obtain ⟨xs,h1,h2,h3⟩:=hown
 rcases hs with ⟨rfl,rfl⟩ | ⟨ad,xs2,rfl,g2,g3⟩
 ·refine ⟨v,w,?_,by rw [List.append_nil];exact ⟨xs,h1,h2,h3⟩,World.grownBy.refl w _,.inl rfl⟩
  rcases h1.2 with ⟨rfl,_⟩ | ⟨g,cap,cur,rfl,_,_,hnc,_⟩
  ·simp [Builtin.append_,run_underlying ht,sizeOf,typeInfo,hi,Builtin.lenOf,Builtin.firstCells]
  ·simp [Builtin.append_,run_underlying ht,sizeOf,typeInfo,hi,Builtin.lenOf,Builtin.firstCells,hnc,storeCells]
 ·have hx2:xs2.length=l2.length:=by have:=g2.1;simpa using this
  have hx1:xs.length=l.length:=by have:=h2.1;simpa using this
  obtain ⟨v',w',hrun,k2,k3,_,k5⟩:=run_append_own_at (P:=P) w base t ty e i _ 3 40 ht hi hz hs' hb rfl (by omega) v l.length (itcs l xs) h1 ad l2.length c (itcs l2 xs2) (itcs_len _ _ hx2) g3 (itcs_one _ _ g2.ones) (by unfold maxLen;omega) (by omega) hbase
  refine ⟨v',w',hrun,⟨xs ++ xs2,?_,?_,by simp;omega⟩,k3,k5⟩
  ·rw [itcs_app _ _ _ _ hx1,List.length_append];exact k2
  ·rw [List.map_append]
   exact (h2.grown k3 (.inl rfl) k5).app (g2.grown k3 (.inl rfl) k5)
theorem wpList_append_I {ops:Array Oper} {rest:List Oper} {o:Oper} {a:Act} {Q:Exit→Act→World→Prop} (hw:Region.wanted o (yielded ops a.tmps)=true) (s x:Operand) (t:TypeId)
    (ho:o.op=.call { callee:=.builtin .append,args:=#[s,x],argTypes:=#[t,t] })
    (base lo:Nat) (e:TypeId) (ht:P.underlying t=some (.slice e)) (hinfo:(P.info? e).map (fun i=>(i.zero,i.size,i.bytes))=some (some (.agg #[.int .i64 0,.int .i64 0,.slice none 0 0]),3,40))
    (v:Value) (l:List It) (hsv:a.eval s=v) (hown:OwIt e w base lo v l) (A:Option Addr) (m c:Nat) (l2:List It) (hx:a.eval x=.slice A m c) (hm:m=l2.length) (hs:SrcI w lo v.ownBlock A l2) (hn:l.length + l2.length ≤ 1000000) (hbase:base ≤ w.heap.size)
    (h:∀ v' w',OwIt e w' base lo v' (l ++ l2)→w.grownBy w' v.ownBlock→(v'.ownBlock=v.ownBlock∨v'.ownBlock=some w.heap.size)→wpList P ops Q rest (a.put o.dst v') w'):wpList P ops Q (o::rest) a w:=by
 refine BigFrame.wpList_want hw fun K hK=>?_
 obtain ⟨v',w',hrun,h2,h3,h4⟩:=run_append_I (P:=P) w base lo t o.type e ht hinfo v l hown A m c l2 hm hs hn hbase
 unfold Oper.wp execOp
 simp only [ho,resolve,invoke,builtin,Sem.run_bind,Sem.run_pure,Result.andThen_ok,List.map_toArray,List.map_cons,List.map_nil,hsv,hx,hrun]
 exact hK _ _ (h v' w' h2 h3 h4)
end
theorem src_one {w:World} {lo g:Nat} {ob:Option Nat} {x:It} {D:Option Addr} {c:Nat} {t:TypeId} {f:Nat × Nat} (hg:w.heap[g]?=some (.cells (List.toArray [.int .i64 x.d,.int .i64 x.a,.slice D x.b.length c]) t f)) (hr:RdB w w.heap.size D x.b) (hc:x.b.length ≤ c) (hne:0 < x.b.length→∀ a,D=some a→some a.block ≠ ob∧lo ≤ a.block):SrcI w lo ob (some ⟨g,0,none⟩) [x] :=
 .inr ⟨⟨g,0,none⟩,[.slice D x.b.length c],rfl,RowsL.one hr hc hne,fun j u hu=>by
  have e1:((⟨g,0,none⟩:Addr).add j)=⟨g,j,none⟩:=by unfold Addr.add;by_cases hk0:j=0 <;> simp [hk0]
  rw [e1,cell_of_row w g j _ t f hg]
  simpa [itcs] using hu⟩
end Go.Proofs.YtenkkdnepmoihaaGreatDoor
end
