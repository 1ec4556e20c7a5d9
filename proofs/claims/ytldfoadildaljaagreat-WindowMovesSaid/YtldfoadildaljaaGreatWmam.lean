/- Texts put together: PartsOwn, EraseBits, RowSame, RefNums. -/
import Derived.Test.YtldfoadildaljaaGreatWmad
import Derived.Test.YtldfoadildaljaaGreatWmaj
import Derived.Test.YtldfoadildaljaaGreatWmac
import Derived.Test.YtldfoadildaljaaGreatWmah
import Derived.Test.YtldfoadildaljaaGreatWmaf
section
namespace Go.Proofs.YtldfoadildaljaaGreat
open Go.RowKit
def RdBF (lo:Nat) (w:World) (A:Option Addr) (bs:List UInt8):Prop :=
 bs.length ≤ 140737488355328∧(0 < bs.length→∃ b off,A=some ⟨b,off,none⟩∧b < w.heap.size∧lo ≤ b∧∀ k,k < bs.length→w.cell? ⟨b,off + k,none⟩=some (.int .u8 ((bs.getD k 0).toNat:Int)))
def RdF (lo:Nat) (w:World) (A:Option Addr) (rs:List (List UInt8)):Prop :=
 rs.length ≤ 140737488355328∧(0 < rs.length→∃ b off,A=some ⟨b,off,none⟩∧b < w.heap.size∧lo ≤ b∧∀ k,k < rs.length→∃ A' c,w.cell? ⟨b,off + k,none⟩=some (.slice A' (rs.getD k []).length c)∧RdBF lo w A' (rs.getD k []))
theorem RdBF.rdb {lo:Nat} {w:World} {A:Option Addr} {bs:List UInt8} (h:RdBF lo w A bs):RdB w w.heap.size A bs :=
 ⟨h.1,fun h0=>by
  obtain ⟨b,off,e,hb,_,hc⟩:=h.2 h0
  exact ⟨b,off,e,hb,hc⟩⟩
theorem RdF.rdr {lo:Nat} {w:World} {A:Option Addr} {rs:List (List UInt8)} (h:RdF lo w A rs):RdR w w.heap.size A rs :=
 ⟨h.1,fun h0=>by
  obtain ⟨b,off,e,hb,_,hc⟩:=h.2 h0
  refine ⟨b,off,e,hb,fun k hk=>?_⟩
  obtain ⟨A',c,h1,h2⟩:=hc k hk
  exact ⟨A',c,h1,h2.rdb⟩⟩
theorem RdBF.keep {lo:Nat} {w w':World} {A:Option Addr} {bs:List UInt8} (h:RdBF lo w A bs) (hz:w.heap.size ≤ w'.heap.size) (hk:∀ p:Addr,lo ≤ p.block→p.block < w.heap.size→w'.cell? p=w.cell? p):RdBF lo w' A bs :=
 ⟨h.1,fun h0=>by
  obtain ⟨b,off,e,hb,hl,hc⟩:=h.2 h0
  exact ⟨b,off,e,by omega,hl,fun k hk'=>(hk ⟨b,off + k,none⟩ hl hb).trans (hc k hk')⟩⟩
theorem RdBF.le {lo lo':Nat} {w:World} {A:Option Addr} {bs:List UInt8} (h:RdBF lo w A bs) (hl:lo' ≤ lo):RdBF lo' w A bs :=
 ⟨h.1,fun h0=>by
  obtain ⟨b,off,e,hb,hl2,hc⟩:=h.2 h0
  exact ⟨b,off,e,hb,by omega,hc⟩⟩
def RowsY (w:World) (lo:Nat) (ob:Option Nat) (xs:List Value) (rs:List (List UInt8)):Prop :=
 xs.length=rs.length∧∀ k,k < rs.length→∃ A c,xs[k]?=some (.slice A (rs.getD k []).length c)∧RdBF lo w A (rs.getD k [])∧(0 < (rs.getD k []).length→∀ a,A=some a→some a.block ≠ ob)
theorem RowsY.nil (w:World) (lo:Nat) (ob:Option Nat):RowsY w lo ob [] []:=⟨rfl,fun k hk=>by simp at hk⟩
theorem RowsY.below {w w':World} {lo:Nat} {ob:Option Nat} {xs:List Value} {rs:List (List UInt8)} (h:RowsY w lo ob xs rs) (hb:Below w.heap.size w w'):RowsY w' lo ob xs rs :=
 ⟨h.1,fun k hk=>by
  obtain ⟨A,c,h1,h2,h3⟩:=h.2 k hk
  exact ⟨A,c,h1,h2.keep hb.size fun _ _ hp=>hb.cell hp,h3⟩⟩
theorem RowsY.grown {w w':World} {lo:Nat} {ob ob':Option Nat} {xs:List Value} {rs:List (List UInt8)} (h:RowsY w lo ob xs rs) (hg:w.grownBy w' ob) (ho:ob'=ob∨ob'=some w.heap.size):RowsY w' lo ob' xs rs :=
 ⟨h.1,fun k hk=>by
  obtain ⟨A,c,h1,h2,h3⟩:=h.2 k hk
  refine ⟨A,c,h1,⟨h2.1,fun h0=>?_⟩,fun h0 a ha=>?_⟩
  ·obtain ⟨b,off,e,hb,hl,hc⟩:=h2.2 h0
   have hne:=h3 h0 _ e
   refine ⟨b,off,e,by have:=hg.size;omega,hl,fun j hj=>?_⟩
   rw [← hc j hj]
   exact World.cell?_of_block (w:=w) (hg.block b hb hne)
  ·rcases ho with rfl | rfl
   ·exact h3 h0 a ha
   ·obtain ⟨b,off,e,hb,hl,hc⟩:=h2.2 h0
    rw [ha] at e
    injection e with e
    subst e
    intro e
    injection e with e
    simp at e
    omega⟩
theorem RowsY.snoc {w:World} {lo:Nat} {ob:Option Nat} {xs:List Value} {rs:List (List UInt8)} (h:RowsY w lo ob xs rs) {A:Option Addr} {c:Nat} {bs:List UInt8} (hr:RdBF lo w A bs) (hne:0 < bs.length→∀ a,A=some a→some a.block ≠ ob):RowsY w lo ob (xs ++ [.slice A bs.length c]) (rs ++ [bs]) :=
 ⟨by simp [h.1],fun k hk=>by
  by_cases hk2:k < rs.length
  ·obtain ⟨A',c',h1,h2,h3⟩:=h.2 k hk2
   have e:(rs ++ [bs]).getD k []=rs.getD k []:=by simp [List.getElem?_append_left hk2]
   rw [e]
   exact ⟨A',c',by rw [List.getElem?_append_left (by rw [h.1];exact hk2)];exact h1,h2,h3⟩
  ·have hk3:k=rs.length:=by simp at hk;omega
   subst hk3
   have e:(rs ++ [bs]).getD rs.length []=bs:=by simp
   rw [e]
   exact ⟨A,c,by rw [← h.1];simp,hr,hne⟩⟩
theorem rdf_own {w:World} {base:Nat} {e:TypeId} {v:Value} {n:Nat} {xs:List Value} {rs:List (List UInt8)} {ob:Option Nat} (h:w.ownsRow base e 1 v n xs) (hl:rs.length ≤ 140737488355328) (hx:RowsY w base ob xs rs) :
    ∃ A cap,v=.slice A rs.length cap∧rs.length ≤ cap∧RdF base w A rs:=by
 have hn:n=rs.length:=by have:=h.1;have:=hx.1;omega
 subst hn
 rcases h.2 with ⟨rfl,h0⟩ | ⟨g,cap,cur,rfl,hb,hg,h3,_,_,htk⟩
 ·exact ⟨none,0,by rw [h0],by omega,hl,fun h=>by omega⟩
 ·refine ⟨_,cap,rfl,h3,hl,fun _=>⟨g,0,rfl,(Array.getElem?_eq_some_iff.1 hg).1,hb,fun k hk=>?_⟩⟩
  obtain ⟨A,c,h1,h2,_⟩:=hx.2 k hk
  refine ⟨A,c,?_,h2⟩
  rw [← htk,List.getElem?_take,if_pos (by omega),Array.getElem?_toList] at h1
  rw [Nat.zero_add,cell_of_row w g k cur e (0,0) hg]
  exact h1
theorem OwB.rdbf {e:TypeId} {w:World} {B:Nat} {A:Option Addr} {n c:Nat} {bs:List UInt8} (h:OwB e w B (.slice A n c) bs):RdBF B w A bs :=
 ⟨h.2,fun h0=>by
  obtain ⟨b,off,e,hb,hc⟩:=h.rdS.1.2 h0
  exact ⟨b,off,e,hb,by have:=h.addr_ob h0 _ e;simpa using this,hc⟩⟩
end Go.Proofs.YtldfoadildaljaaGreat
end
section
namespace Go.Proofs.YtldfoadildaljaaGreat
open Go.RowKit
def iv (k:Nat):Value:=.int .i64 (k:Int)
def OwI (w:World) (B:Nat) (v:Value) (ks:List Nat):Prop:=w.ownsRow B 3 1 v ks.length (ks.map iv)
theorem OwI.rd {w:World} {B:Nat} {v:Value} {ks:List Nat} (h:OwI w B v ks):∃ A c,v=.slice A ks.length c∧(0 < ks.length→∃ g,A=some ⟨g,0,none⟩∧B ≤ g∧g < w.heap.size∧∀ j,j < ks.length→w.cell? ⟨g,j,none⟩=some (.int .i64 ((ks.getD j 0:Nat):Int))):=by
 rcases h.2 with ⟨rfl,h0⟩ | ⟨g,cap,cur,rfl,hB,hg,_⟩
 ·exact ⟨none,0,by rw [h0],fun h=>by omega⟩
 ·refine ⟨_,cap,rfl,fun _=>⟨g,rfl,hB,(Array.getElem?_eq_some_iff.1 hg).1,fun j hj=>?_⟩⟩
  rw [World.ownsRow.cellAt h j (by omega)]
  simp [hj,iv]
theorem OwI.below {w w':World} {B:Nat} {v:Value} {ks:List Nat} (h:OwI w B v ks) (hb:Below w.heap.size w w'):OwI w' B v ks:=World.ownsRow.kept h (grown_none hb) (Classical.em _)
theorem info_int:(Tryz.prog.info? 3).map (fun i=>(i.zero,i.size,i.bytes))=some (some (.int .i64 0),1,8):=by kernel_rfl
theorem make_rows (n:Nat) (hn:n ≤ 1000000) (w:World) :
    (Instr.makeSlice 33 (.int .i64 (n:Int)) (.int .i64 (n:Int))).run Tryz.prog w=.ok (.slice (some ⟨w.heap.size,0,none⟩) n n) (w.alloc (.cells (madeCells #[.slice none 0 0] n) 48)) :=
 run_make_row' _ _ _ 24 Tryz.underlying33 info_row rfl _ _ n (by omega) (by omega) w
set_option maxHeartbeats 400000 in
theorem missing_any (A:Option Addr) (rs:List (List UInt8)) (n cp:Nat) (w:World) (hn:rs.length=n) (hn8:n ≤ 1000000) (hr:RdR w w.heap.size A rs) :
    Calls Tryz.prog 113 #[.slice A n cp] w fun e w'=>∃ v,e=.returned v∧OwI w' w.heap.size v (missB rs)∧Below w.heap.size w w':=by
 subst hn
 have Hall:Hid (missB rs=missTo rs rs.length):=rfl
 go_enter Tryz.func113,Tryz.ntmps113
 go_wp2
 go_loopw [3,8] (fun o i wr=>∃ k:Nat,k ≤ rs.length∧i=.int .i64 k∧OwI wr w.heap.size o (missTo rs k)∧Below w.heap.size w wr) (fun _ i _=>rs.length - (intOf i).toNat)
 case atStart=>exact ⟨0,Nat.zero_le _,rfl,World.ownsRow_nil _ _ _ _,Below.refl _ _⟩
 case round =>
  obtain ⟨k,hk,rfl,hown,hbr⟩:=hrel
  by_cases hlt:k < rs.length
  ·obtain ⟨b,off,rfl,hbb,hc⟩:=hr.2 (by omega)
   obtain ⟨A',c',h1,h2⟩:=hc k hlt
   rw [← hbr.cell (p:=⟨b,off + k,none⟩) hbb] at h1
   have Hs:=Lib.hid (missTo_succ rs k)
   have hml:=missTo_len rs k
   generalize rs.getD k []=row at h1 h2 Hs
   generalize missTo rs k=ms at hown Hs hml
   have i0:(0:Int) ≤ (k:Int):=by omega
   have i1:(k:Int) < (rs.length:Int):=by omega
   clear hc
   by_cases he:row.length=0
   ·have Hs2:=Lib.hid (show missTo rs (k + 1)=ms ++ [k] by rw [Hs.out,if_pos he])
    have e0:((row.length:Int) == 0)=true:=by rw [he];rfl
    clear he Hs
    have hs0:=hbr.size
    go_wp2_with (at_builtin;refine wpList_append_V rfl _ _ _ rfl w.heap.size 3 (.int .i64 0) 8 Tryz.underlying22 info_int rfl _ ms.length (ms.map iv) rfl (World.ownsRow.kept hown (grown_none (below1 wr _)) (Classical.em _)) (wr.heap.size + 1) (some ⟨wr.heap.size,0,none⟩) 1 1 [.int .i64 (k:Int)] rfl rfl (fun _=>⟨wr.heap.size,0,rfl,by omega,fun j hj=>by obtain rfl:j=0:=(by simp at hj;omega);exact cell_of_row _ _ _ _ _ _ (hp_new _ _ _ rfl)⟩) (fun u hu=>by simp at hu;subst hu;rfl) (by unfold maxLen;omega) (by omega) (by simp;omega) ?_;intro v2 w2 hown2 hg2 hat2)
    have hbw2:=(hbr.alloc hbr.size (.cells #[.int .i64 (k:Int)] 3)).grown hg2 (by simp;omega) (fun j hj=>(hown.lt j hj).1)
    have hown3:OwI w2 w.heap.size v2 (missTo rs (k + 1)):=by
     rw [Hs2.out]
     unfold OwI
     rw [List.length_append,List.map_append]
     exact hown2
    clear hown2
    go_wp2
    go_roundw
    case rel=>exact ⟨k + 1,by omega,by go_num,hown3,hbw2⟩
    case measure=>simp [intOf];omega
   ·have Hs2:=Lib.hid (show missTo rs (k + 1)=ms by rw [Hs.out,if_neg he])
    have e0:((row.length:Int) == 0)=false:=by rw [beq_eq_false_iff_ne];omega
    clear he Hs
    go_wp2
    go_roundw
    case rel=>exact ⟨k + 1,by omega,by go_num,by rw [Hs2.out];exact hown,hbr⟩
    case measure=>simp [intOf];omega
  ·obtain rfl:k=rs.length:=by omega
   rw [← Hall.out] at hown
   go_wp2
   go_ret
   exact ⟨_,rfl,hown,hbr⟩
set_option maxHeartbeats 400000 in
theorem sized_any (A:Option Addr) (rs:List (List UInt8)) (n cp N:Nat) (w:World) (hn:rs.length=n) (hr:RdR w w.heap.size A rs) :
    Calls Tryz.prog 112 #[.int .i64 (N:Int),.slice A n cp] w fun e w'=>e=.returned (.bool (sizedB N rs))∧w'=w:=by
 subst hn
 have Hz:=Lib.hid (@sizedB_iff N rs)
 have hm:=hr.1
 go_enter Tryz.func112,Tryz.ntmps112
 go_wp2
 go_loopw [9] (fun i wr=>∃ k:Nat,k ≤ rs.length∧i=.int .i64 k∧(∀ j,j < k→(rs.getD j []).length=0∨(rs.getD j []).length=N)∧wr=w) (fun i _=>rs.length - (intOf i).toNat)
 case atStart=>exact ⟨0,Nat.zero_le _,rfl,fun j hj=>absurd hj (Nat.not_lt_zero _),rfl⟩
 case round =>
  obtain ⟨k,hk,rfl,hj,rfl⟩:=hrel
  have Hj:=Lib.hid hj
  clear hj
  by_cases hlt:k < rs.length
  ·obtain ⟨b,off,rfl,hbb,hc⟩:=hr.2 (by omega)
   obtain ⟨A',c',h1,h2⟩:=hc k hlt
   have Hno:=Lib.hid (show ¬ ((rs.getD k []).length=0∨(rs.getD k []).length=N)→sizedB N rs=false from fun h=>by
    cases e:sizedB N rs with
    | false=>rfl
    | true=>exact absurd (Hz.out.1 e k hlt) h)
   have Hyes:=Lib.hid (show ((rs.getD k []).length=0∨(rs.getD k []).length=N)→∀ j,j < k + 1→(rs.getD j []).length=0∨(rs.getD j []).length=N from fun h j hj=>by
    by_cases e:j=k
    ·rw [e];exact h
    ·exact Hj.out j (by omega))
   generalize (rs.getD k []).length=L at h1 Hno Hyes
   have i0:(0:Int) ≤ (k:Int):=by omega
   have i1:(k:Int) < (rs.length:Int):=by omega
   clear hc h2
   by_cases he:L=0
   ·have Hn:=Lib.hid (Hyes.out (.inl he))
    have e0:((L:Int) != 0)=false:=by rw [he];rfl
    clear he
    go_wp2
    go_roundw
    case rel=>exact ⟨k + 1,by omega,by go_num,Hn.out,trivial⟩
    case measure=>simp [intOf];omega
   ·have e0:((L:Int) != 0)=true:=by rw [bne_iff_ne];omega
    by_cases hN:L=N
    ·have Hn:=Lib.hid (Hyes.out (.inr hN))
     have e1:((L:Int) != (N:Int))=false:=int_bne_no hN
     clear he hN
     go_wp2
     go_roundw
     case rel=>exact ⟨k + 1,by omega,by go_num,Hn.out,trivial⟩
     case measure=>simp [intOf];omega
    ·have Hn:=Lib.hid (Hno.out (fun h=>h.elim he hN))
     have e1:((L:Int) != (N:Int))=true:=int_bne_yes hN
     clear he hN
     go_wp2
     go_ret
     exact ⟨by rw [Hn.out];rfl,rfl⟩
  ·obtain rfl:k=rs.length:=by omega
   have Hn:=Lib.hid (Hz.out.2 Hj.out)
   go_wp2
   go_ret
   exact ⟨by rw [Hn.out];rfl,rfl⟩
def fillTo (n:Nat) (rs:List (List UInt8)) (k:Nat):List (List UInt8):=(rs.take k).map (fillR n) ++ List.replicate (rs.length - k) []
theorem fillTo_len (n:Nat) (rs:List (List UInt8)) {k:Nat} (h:k ≤ rs.length):(fillTo n rs k).length=rs.length:=by simp [fillTo];omega
theorem fillTo_all (n:Nat) (rs:List (List UInt8)):fillTo n rs rs.length=filledB n rs:=by simp [fillTo,filledB]
theorem fillTo_succ (n:Nat) (rs:List (List UInt8)) {k:Nat} (h:k < rs.length):(fillTo n rs k).set k (fillR n (rs.getD k []))=fillTo n rs (k + 1):=by
 have hl:((rs.take k).map (fillR n)).length=k:=by simp;omega
 unfold fillTo
 rw [List.set_append_right _ _ (by omega),hl,Nat.sub_self,show rs.length - k=(rs.length - (k + 1)) + 1 from by omega,List.replicate_succ,List.set_cons_zero,List.take_succ_eq_append_getElem h,List.map_append,List.append_assoc]
 simp [h]
theorem RowsY.set {w:World} {lo:Nat} {ob:Option Nat} {xs:List Value} {rs:List (List UInt8)} (h:RowsY w lo ob xs rs) (j:Nat) {A:Option Addr} {c:Nat} {bs:List UInt8} (hr:RdBF lo w A bs) (hne:0 < bs.length→∀ a,A=some a→some a.block ≠ ob):RowsY w lo ob (xs.set j (.slice A bs.length c)) (rs.set j bs) :=
 ⟨by simp [h.1],fun k hk=>by
  rw [List.length_set] at hk
  by_cases hkj:j=k
  ·subst hkj
   have e:(rs.set j bs).getD j []=bs:=by simp [hk]
   rw [e]
   exact ⟨A,c,by simp [show j < xs.length by rw [h.1];exact hk],hr,hne⟩
  ·have e:(rs.set j bs).getD k []=rs.getD k []:=by simp [List.getElem?_set_ne hkj]
   rw [e,List.getElem?_set_ne hkj]
   exact h.2 k hk⟩
def OwR (w:World) (base g n cap:Nat) (rs:List (List UInt8)):Prop :=
 rs.length=n∧n ≤ cap∧base ≤ g∧∃ xs,w.ownsRow base 48 1 (.slice (some ⟨g,0,none⟩) n cap) n xs∧RowsY w base (some g) xs rs
section
variable {w w':World} {base g n cap:Nat} {rs:List (List UInt8)}
theorem OwR.lt (h:OwR w base g n cap rs):g < w.heap.size:=by
 obtain ⟨_,_,_,xs,h1,_⟩:=h
 exact (h1.lt g rfl).2
theorem OwR.below (h:OwR w base g n cap rs) (hb:Below w.heap.size w w'):OwR w' base g n cap rs:=by
 obtain ⟨h0,hc,hg,xs,h1,h2⟩:=h
 exact ⟨h0,hc,hg,xs,h1.kept (grown_none hb) (Classical.em _),h2.below hb⟩
theorem OwR.cell (h:OwR w base g n cap rs) (j:Nat) (hj:j < n):∃ A c,w.cell? ⟨g,j,none⟩=some (.slice A (rs.getD j []).length c)∧RdBF base w A (rs.getD j [])∧w.frozen? ⟨g,j,none⟩=false:=by
 obtain ⟨h0,_,_,xs,h1,h2⟩:=h
 obtain ⟨A,c,h3,h4,_⟩:=h2.2 j (by omega)
 exact ⟨A,c,by rw [World.ownsRow.cellAt h1 j (by omega)];exact h3,h4,World.ownsRow.frozenAt h1 j⟩
theorem OwR.rdf (h:OwR w base g n cap rs) (hl:n ≤ 140737488355328):RdF base w (some ⟨g,0,none⟩) rs:=by
 obtain ⟨h0,_,_,xs,h1,h2⟩:=h
 subst h0
 obtain ⟨A,c,hv,_,hr⟩:=rdf_own h1 hl h2
 injection hv with h3 _ _
 rw [h3]
 exact hr
theorem OwR.rdr (h:OwR w base g n cap rs) (hl:n ≤ 140737488355328):RdR w w.heap.size (some ⟨g,0,none⟩) rs:=(h.rdf hl).rdr
theorem OwR.set (h:OwR w base g n cap rs) (j:Nat) {A:Option Addr} {c:Nat} {bs:List UInt8} (hr:RdBF base w A bs) (hne:0 < bs.length→∀ a,A=some a→a.block ≠ g) :
    OwR (w.setCell ⟨g,j,none⟩ (.slice A bs.length c)) base g n cap (rs.set j bs):=by
 obtain ⟨h0,hc,hg,xs,h1,h2⟩:=h
 obtain ⟨h3,h4⟩:=World.ownsRow.stored h1 j (.slice A bs.length c)
 exact ⟨by rw [List.length_set];exact h0,hc,hg,_,h3,(h2.set j hr fun hp a ha e=>hne hp a ha (by injection e)).grown h4 (.inl rfl)⟩
end
theorem OwB.newer {w:World} {B g:Nat} {A:Option Addr} {n c:Nat} {bs:List UInt8} {e:TypeId} (h:OwB e w B (.slice A n c) bs) (hg:g < B):0 < bs.length→∀ a,A=some a→a.block ≠ g:=fun hp a ha=>by
 have:=h.addr_ob hp a ha
 omega
theorem filled_new (w:World) (n:Nat) (hn:n ≤ 1000000) (N:Nat) (rs:List (List UInt8)) (hl:rs.length=n):OwR (w.alloc (.cells (madeCells #[.slice none 0 0] n) 48)) w.heap.size w.heap.size n n (fillTo N rs 0):=by
 refine ⟨by rw [fillTo_len N rs (Nat.zero_le _)];exact hl,Nat.le_refl _,Nat.le_refl _,_,World.ownsRow_lit w _ n (Nat.le_refl _) (by unfold maxLen;omega) (by simp [size_madeCells]),?_⟩
 rw [toList_madeCells_one]
 subst hl
 refine ⟨by simp [fillTo],fun k hk=>⟨none,0,?_,?_,?_⟩⟩
 ·have hk':k < rs.length:=by simpa [fillTo] using hk
  have e:(fillTo N rs 0).getD k []=[]:=by simp [fillTo,hk']
  rw [e,List.getElem?_replicate,if_pos hk']
  rfl
 all_goals have hk':k < rs.length:=by simpa [fillTo] using hk
 all_goals have e:(fillTo N rs 0).getD k []=[]:=by simp [fillTo,hk']
 all_goals rw [e]
 ·exact ⟨by simp,fun h=>by simp at h⟩
 ·intro h;simp at h
set_option maxHeartbeats 800000 in
theorem filled_any (A:Option Addr) (rs:List (List UInt8)) (n cp N:Nat) (w:World) (hn:rs.length=n) (hn8:n ≤ 1000000) (hN:N ≤ 140737488355328) (hr:RdR w w.heap.size A rs) :
    Calls Tryz.prog 114 #[.int .i64 (N:Int),.slice A n cp] w fun e w'=>∃ g,e=.returned (.slice (some ⟨g,0,none⟩) n n)∧OwR w' w.heap.size g n n (filledB N rs)∧Below w.heap.size w w':=by
 subst hn
 have km:=make_rows rs.length hn8
 have kb:=make_bytes N hN
 have own0:=filled_new w rs.length hn8 N rs rfl
 have Hall:=Lib.hid (fillTo_all N rs)
 go_enter Tryz.func114,Tryz.ntmps114
 go_wp2
 go_loopw [13] (fun i wr=>∃ k:Nat,k ≤ rs.length∧i=.int .i64 k∧OwR wr w.heap.size w.heap.size rs.length rs.length (fillTo N rs k)∧Below w.heap.size w wr) (fun i _=>rs.length - (intOf i).toNat)
 case atStart=>exact ⟨0,Nat.zero_le _,rfl,own0,below1 _ _⟩
 case round =>
  obtain ⟨k,hk,rfl,hown,hbr⟩:=hrel
  by_cases hlt:k < rs.length
  ·obtain ⟨b,off,rfl,hbb,hc⟩:=hr.2 (by omega)
   obtain ⟨A',c',h1,h2⟩:=hc k hlt
   rw [← hbr.cell (p:=⟨b,off + k,none⟩) hbb] at h1
   have h2':=(h2.below hbr (Nat.le_refl _)).more hbr.size
   have Hs:=Lib.hid (fillTo_succ N rs hlt)
   generalize rs.getD k []=row at h1 h2' Hs
   generalize fillTo N rs k=ms at hown Hs
   have i0:(0:Int) ≤ (k:Int):=by omega
   have i1:(k:Int) < (rs.length:Int):=by omega
   have hs0:=hbr.size
   have hgl:=hown.lt
   clear hc h2
   by_cases he:row.length=0
   ·have Hs2:=Lib.hid (show ms.set k (zeroL N)=fillTo N rs (k + 1) by rw [← Hs.out];unfold fillR;rw [if_pos he])
    have e0:((row.length:Int) == 0)=true:=by rw [he];rfl
    clear he Hs
    have ho:=own_make 5 wr N hN
    have hown1:=hown.below (below1 wr (.cells (zcells N) 5))
    obtain ⟨A1,c1,h3,_,h5⟩:=hown1.cell k hlt
    have hset:=hown1.set k (c:=N) ((ho.le hs0).rdbf) (ho.newer hgl)
    rw [show (List.replicate N (0:UInt8)).length=N by simp,show ms.set k (List.replicate N 0)=fillTo N rs (k + 1) from Hs2.out] at hset
    have hbw:=(hbr.alloc hs0 (.cells (zcells N) 5)).setCell (p:=⟨w.heap.size,k,none⟩) (Nat.le_refl _) (.slice (some ⟨wr.heap.size,0,none⟩) N N)
    rw [World.setCell_alloc_past _ _ _ _ hgl] at hset hbw
    go_wp2
    go_roundw
    case rel=>exact ⟨k + 1,by omega,by go_num,hset,hbw⟩
    case measure=>simp [intOf];omega
   ·have Hs2:=Lib.hid (show ms.set k row=fillTo N rs (k + 1) by rw [← Hs.out];unfold fillR;rw [if_neg he])
    have e0:((row.length:Int) == 0)=false:=by rw [beq_eq_false_iff_ne];omega
    have hp:0 < row.length:=by omega
    clear he Hs
    go_wp2_with fail
    refine (clone_any A' row row.length c' wr rfl hp h2').mono ?_
    rintro e w1 ⟨v,rfl,ho,hb⟩
    obtain ⟨A1,c1,rfl,_,_⟩:=ho.rd
    have hown1:=hown.below hb
    obtain ⟨A2,c2,h3,_,h5⟩:=hown1.cell k hlt
    have hset:=hown1.set k (c:=c1) ((ho.le hs0).rdbf) (ho.newer hgl)
    rw [Hs2.out] at hset
    have hbw:=(hbr.trans (hb.mono hs0)).setCell (p:=⟨w.heap.size,k,none⟩) (Nat.le_refl _) (.slice A1 row.length c1)
    go_wp2
    go_roundw
    case rel=>exact ⟨k + 1,by omega,by go_num,hset,hbw⟩
    case measure=>simp [intOf];omega
  ·obtain rfl:k=rs.length:=by omega
   rw [Hall.out] at hown
   go_wp2
   go_ret
   exact ⟨_,rfl,hown,hbr⟩
end Go.Proofs.YtldfoadildaljaaGreat
end
section
namespace Go.Proofs.YtldfoadildaljaaGreat
open Go.RowKit
end Go.Proofs.YtldfoadildaljaaGreat
end
section
set_option linter.unusedVariables false
set_option linter.unusedSimpArgs false
set_option maxRecDepth 20000
namespace Go.Proofs.YtldfoadildaljaaGreat
open Go.RowKit
theorem step_append_J {w:World} {ops:Array Oper} {o:Oper} {a:Act} {K:Act→World→Prop} {Q:Exit→Act→World→Prop} {E:Prop} (hgd:o.guard=none) (s x:Operand)
    (ho:o.op=.call { callee:=.builtin .append,args:=#[s,x],argTypes:=#[22,22] })
    (base:Nat) (v:Value) (zs:List Int) (hs:a.eval s=v) (hown:OwJ w base v zs) (hl:zs.length ≤ 1000000) (g:Nat) (z:Int) (hx:a.eval x=.slice (some ⟨g,0,none⟩) 1 1) (hg:w.cell? ⟨g,0,none⟩=some (.int .i64 z))
    (hbase:base ≤ w.heap.size)
    (h:∀ v' w',OwJ w' base v' (zs ++ [z])→w.grownBy w' v.ownBlock→K (a.put o.dst v') w') :
    if Region.wanted o (yielded ops a.tmps)=true then Oper.wp Tryz.prog o a w K Q else E:=by
 obtain ⟨i,hi,hzz⟩:=Option.map_eq_some_iff.1 info_z
 simp only [Prod.mk.injEq] at hzz
 obtain ⟨hz,hsz,hb⟩:=hzz
 refine step_append_lies w hgd s x 22 ho base 3 i (.int .i64 0) 1 8 Tryz.underlying22 hi hz hsz hb rfl (by omega) v zs.length (zs.map zv) hs hown ⟨g,0,none⟩ 1 1 [zv z] hx rfl (fun j u hj=>?_) (fun u hu=>?_) (by omega) (by unfold maxLen;omega) (by omega) hbase _ rfl (fun g' cap w' h1 h2 _ _=>h _ w' ?_ h2)
 ·rcases j with _ | j
  ·simp at hj;subst hj;exact hg
  ·simp at hj
 ·simp at hu;subst hu;rfl
 ·unfold OwJ
  rw [List.length_append,List.map_append]
  exact h1
theorem OwJ.lt {w:World} {B:Nat} {v:Value} {zs:List Int} (h:OwJ w B v zs):∀ k,v.ownBlock=some k→B ≤ k∧k < w.heap.size:=World.ownsRow.lt h
theorem GS.grown {w0 W W':World} {B b:Nat} {l d c:Int} {row:Option Nat} (h:GS w0 B b l d c W) (hg:W.grownBy W' row) (hB:B ≤ W.heap.size) (hr:∀ k,row=some k→B ≤ k∧k ≠ b):GS w0 B b l d c W':=by
 obtain ⟨h1,h2,h3,F⟩:=h
 have hb:W'.heap[b]?=W.heap[b]?:=hg.block b (World.block_lt_of_cell? _ _ h1) (fun e=>(hr b e.symm).2 rfl)
 have hc:∀ o,W'.cell? ⟨b,o,none⟩=W.cell? ⟨b,o,none⟩:=fun o=>by unfold World.cell?;simp only [hb]
 exact ⟨(hc 0).trans h1,(hc 1).trans h2,(hc 2).trans h3,F.grown hg hB fun k e=>(hr k e).1⟩
def plFirst (l d c r:Int) (k:Nat):List Int:=(List.range k).map (fun j:Nat=>plN l d c r (j:Int))
theorem plFirst_succ (l d c r:Int) (k:Nat):plFirst l d c r k ++ [plN l d c r (k:Int)]=plFirst l d c r (k + 1):=by simp [plFirst,List.range_succ]
theorem plFirst_len (l d c r:Int) (k:Nat):(plFirst l d c r k).length=k:=by simp [plFirst]
theorem plFirst_all {l d c r:Int} {n:Nat} (h:plOk l d c r=true) (hn:gWid l d c=n):plFirst l d c r n=plNums l d c r:=by
 have hg:=(plOk_yes h).1
 rw [gWid_yes hg] at hn
 unfold plNums plFirst
 rw [if_pos h,hn]
 simp
set_option maxHeartbeats 1000000 in
theorem refNumbers_own (l d c r:Int) (w:World) (HT:Hid (plOk l d c r=true)) (hl:(-9223372036854775808 ≤ l∧l ≤ 9223372036854775807)) (hd:(-9223372036854775808 ≤ d∧d ≤ 9223372036854775807)) (hc:(-9223372036854775808 ≤ c∧c ≤ 9223372036854775807)) (hr:(-9223372036854775808 ≤ r∧r ≤ 9223372036854775807)) :
    Calls Tryz.prog 17 #[.agg #[.int .i64 l,.int .i64 d,.int .i64 c],.int .i64 r] w fun e w'=>∃ v,e=.returned v∧OwJ w' w.heap.size v (plNums l d c r)∧Below w.heap.size w w':=by
 have G:=gat_new w l d c 25 (0,0)
 obtain ⟨hg,h0,h1⟩:=plOk_yes HT.out
 have hb6:=gOk_bd hg
 have HW:=Lib.hid (fun W=>refWidth_any l d c W hl hd hc)
 have hw:=gWid_bd l d c
 obtain ⟨n,hn⟩:∃ n:Nat,gWid l d c=n:=⟨(gWid l d c).toNat,by omega⟩
 have Hall:=Lib.hid (plFirst_all HT.out hn)
 have HN:Hid (∀ k:Nat,plN l d c r (k:Int)=(r / c * (n:Int) + k) * c + r % c):=Lib.hid fun k=>by rw [← hn,gWid_yes hg];rfl
 rw [hn] at HW hw
 have hq:=quo_bd 16 h0 h1 (show 1 ≤ c by omega)
 have hm:=rem_bd r (show 1 ≤ c by omega)
 have z3:r.tdiv c=r / c:=Int.tdiv_eq_ediv_of_nonneg h0
 have z4:r.tmod c=r % c:=Int.tmod_eq_emod_of_nonneg h0
 have n2:¬ c=0:=by omega
 have z5:IntKind.i64.wrap (r / c)=r / c:=IntWalk.i64_in _ (by omega)
 have hx:0 ≤ r / c * (n:Int)∧r / c * (n:Int) ≤ 112:=⟨Int.mul_nonneg hq.1 hw.1,by
  have:=Int.mul_le_mul (show r / c ≤ 16 by omega) hw.2 hw.1 (by omega)
  omega⟩
 have z1:IntKind.i64.wrap (r / c * (n:Int))=r / c * (n:Int):=IntWalk.i64_in _ (by omega)
 clear hn hg h0 h1
 go_enter Tryz.func17,Tryz.ntmps17
 go_wp2_with fail
 (with_reducible refine (refFine_yes l d c r _ HT hl hd hc hr).mono ?_);rintro e w1 ⟨rfl,hb⟩
 have S1:=GS.later (w0:=w) (B:=w.heap.size) ⟨G.1,G.2.1,G.2.2,below1 w _⟩ hb
 have q0:w.heap.size < w1.heap.size:=World.block_lt_of_cell? _ _ S1.1
 clear hb G
 go_wp2_with fail
 have H0:OwJ w1 (w.heap.size + 1) (.slice none 0 0) (plFirst l d c r 0):=World.ownsRow_nil _ _ _ _
 go_loopw [5,6] (fun v i wr=>∃ k:Nat,k ≤ n∧i=.int .i64 k∧OwJ wr (w.heap.size + 1) v (plFirst l d c r k)∧GS w w.heap.size w.heap.size l d c wr) (fun _ i _=>n - (intOf i).toNat)
 case atStart=>exact ⟨0,Nat.zero_le _,rfl,H0,S1⟩
 case round =>
  obtain ⟨k,hk,rfl,hown,hS⟩:=hrel
  obtain ⟨g1,g2,g3,F⟩:=hS
  go_wp2_with fail
  (with_reducible refine (HW.out _).mono ?_);rintro e w2 ⟨rfl,hb⟩
  have S2:=GS.later (w0:=w) (B:=w.heap.size) ⟨g1,g2,g3,F⟩ hb
  have hown2:=hown.below hb
  clear hb g1 g2 g3 F hown
  by_cases hlt:k < n
  ·have i0:(0:Int) ≤ (k:Int):=by omega
   have i1:(k:Int) < (n:Int):=by omega
   have Hk:=Lib.hid (HN.out k)
   have hy:0 ≤ (r / c * (n:Int) + (k:Int)) * c∧(r / c * (n:Int) + (k:Int)) * c ≤ 120 * 4:=⟨Int.mul_nonneg (by omega) (by omega),Int.mul_le_mul (by omega) (by omega) (by omega) (by omega)⟩
   have y1:IntKind.i64.wrap (r / c * (n:Int) + (k:Int))=r / c * (n:Int) + (k:Int):=IntWalk.i64_in _ (by omega)
   have y2:IntKind.i64.wrap ((r / c * (n:Int) + (k:Int)) * c)=(r / c * (n:Int) + (k:Int)) * c:=IntWalk.i64_in _ (by omega)
   have y3:IntKind.i64.wrap ((r / c * (n:Int) + (k:Int)) * c + r % c)=plN l d c r (k:Int):=by rw [Hk.out];exact IntWalk.i64_in _ (by omega)
   have hlen:=plFirst_len l d c r k
   have Hs:=Lib.hid (plFirst_succ l d c r k)
   generalize plN l d c r (k:Int)=z at y3 Hs
   obtain ⟨g1,g2,g3,F⟩:=S2
   go_wp2_with fail
   have S2:GS w w.heap.size w.heap.size l d c w2:=⟨g1,g2,g3,F⟩
   clear g1 g2 g3 F
   have zb:=S2.2.2.2.size
   have q2:w.heap.size < w2.heap.size:=World.block_lt_of_cell? _ _ S2.1
   go_region_held3 (GS w w.heap.size w.heap.size l d c)
    (first | assumption | exact GS.drew ‹_› | exact GS.later S3 (below1 _ _) | exact S9)
    (first
     |(go_at_call 28;(with_reducible refine (HW.out _).mono ?_);rintro e w3 ⟨rfl,hb⟩;have S3:=(GS.drew S2).later hb;have hown3:=OwJ.below (w:=w2.drew) hown2 hb;have q3:w.heap.size + 1 ≤ w3.heap.size:=Nat.le_trans q2 hb.size;clear hb)
     |(refine step_append_J (by rfl) _ _ (by rfl) (w.heap.size + 1) u5 (plFirst l d c r k) (by rfl) (hown3.below (below1 _ _)) (by omega) _ z (by rfl) (cell_of_row _ _ 0 _ _ _ (hp_new _ _ _ rfl)) (Nat.le_trans q3 (below1 _ _).size) ?_
       intro v2 w9 hown9 hg9
       have S9:=GS.grown (GS.later S3 (below1 w3 (.cells #[.int .i64 z] 3))) hg9 (Nat.le_trans (Nat.le_of_lt q3) (below1 _ _).size) (fun j hj=>by have:=(hown3.lt j hj).1;omega)))
   rw [Hs.out] at hown9
   go_wp2
   go_roundw
   case rel=>exact ⟨k + 1,by omega,by go_num,hown9,S9⟩
   case measure=>simp [intOf];omega
  ·obtain rfl:k=n:=by omega
   rw [Hall.out] at hown2
   go_wp2
   go_ret
   exact ⟨_,rfl,hown2.le (by omega),S2.2.2.2⟩
end Go.Proofs.YtldfoadildaljaaGreat
end
