/- Texts put together: RecSec, RecEnc, Rw. -/
import Derived.Test.YtenkkdnepmoihaaGreatDoorUcal
import Derived.Test.YtenkkdnepmoihaaGreatDoorUcad
import Derived.Test.YtenkkdnepmoihaaGreatDoorUcac
import Derived.Test.YtenkkdnepmoihaaGreatDoorUcag
import Derived.Laws.OwnMore
section
set_option maxRecDepth 8000
set_option linter.unusedVariables false
set_option linter.unusedSimpArgs false
namespace Go.Proofs.YtenkkdnepmoihaaGreatDoor
open Go.RowKit
theorem info_rw:(Tryz.prog.info? 35).map (fun i=>(i.zero,i.size,i.bytes))=some (some (.slice none 0 0),1,24):=by kernel_rfl
theorem make_four (w:World) :
    (Instr.makeSlice 32 (.int .i64 4) (.int .i64 4)).run Tryz.prog w=.ok (.slice (some ⟨w.heap.size,0,none⟩) 4 4) (w.alloc (.cells (madeCells #[.slice none 0 0] 4) 35)) :=
 run_make_row' _ _ _ 24 Tryz.underlying32 info_rw rfl _ _ 4 (by omega) (by omega) w
def slv (bk:Nat→Nat) (n k:Nat):Value:=if k < n then .slice (some ⟨bk k,0,none⟩) 32 32 else .slice none 0 0
theorem slv_yes {bk:Nat→Nat} {n k:Nat} (h:k < n):slv bk n k=.slice (some ⟨bk k,0,none⟩) 32 32:=if_pos h
theorem slv_no {bk:Nat→Nat} {n k:Nat} (h:¬ k < n):slv bk n k=.slice none 0 0:=if_neg h
structure P4 (lo:Nat) (W:World) (g:Nat) (bk:Nat→Nat) (rs:List (List UInt8)):Prop where
 n:rs.length ≤ 4
 gl:lo ≤ g
 row:∀ k,k < 4→W.cell? ⟨g,k,none⟩=some (slv bk rs.length k)
 fz:∀ k,W.frozen? ⟨g,k,none⟩=false
 len:∀ k,k < rs.length→(rs.getD k []).length=32
 own:∀ k,k < rs.length→OwB 5 W lo (.slice (some ⟨bk k,0,none⟩) 32 32) (rs.getD k [])
 ne:∀ k,k < rs.length→bk k ≠ g
 inj:∀ j k,j < rs.length→k < rs.length→bk j=bk k→j=k
section
variable {lo:Nat} {W W':World} {g:Nat} {bk:Nat→Nat} {rs:List (List UInt8)}
theorem P4.lt (h:P4 lo W g bk rs):g < W.heap.size:=World.block_lt_of_cell? _ _ (h.row 0 (by omega))
theorem P4.blt (h:P4 lo W g bk rs) (k:Nat) (hk:k < rs.length):lo ≤ bk k∧bk k < W.heap.size:=(h.own k hk).lt _ rfl
theorem P4.le {lo':Nat} (h:P4 lo W g bk rs) (hl:lo' ≤ lo):P4 lo' W g bk rs :=
 ⟨h.n,Nat.le_trans hl h.gl,h.row,h.fz,h.len,fun k hk=>(h.own k hk).le hl,h.ne,h.inj⟩
theorem P4.grown {row:Option Nat} (h:P4 lo W g bk rs) (hg:W.grownBy W' row) (h1:row ≠ some g) (h2:∀ k,k < rs.length→row ≠ some (bk k)):P4 lo W' g bk rs :=
 ⟨h.n,h.gl,fun k hk=>(hg.cell_far ⟨g,k,none⟩ h.lt (fun e=>h1 e.symm)).trans (h.row k hk),fun k=>(hg.frozen_far ⟨g,k,none⟩ h.lt (fun e=>h1 e.symm)).trans (h.fz k),h.len,
  fun k hk=>(h.own k hk).grown hg (.inr fun e=>h2 k hk e.symm),h.ne,h.inj⟩
theorem P4.below (h:P4 lo W g bk rs) (hb:Below W.heap.size W W'):P4 lo W' g bk rs:=h.grown (grown_none hb) (by simp) (by simp)
theorem P4.set (h:P4 lo W g bk rs) (k:Nat) (hk:k < rs.length) {b:List UInt8} (ho:OwB 5 W' lo (.slice (some ⟨bk k,0,none⟩) 32 32) b) (hb:b.length=32) (hg:W.grownBy W' (some (bk k))):P4 lo W' g bk (rs.set k b):=by
 have hgt:∀ j,j < rs.length→(rs.set k b).getD j []=if k=j then b else rs.getD j []:=fun j hj=>by
  simp only [List.getD_eq_getElem?_getD,List.getElem?_set]
  split
  ·subst_vars;simp [hk]
  ·rfl
 refine ⟨by simpa using h.n,h.gl,fun j hj=>?_,fun j=>(hg.frozen_far ⟨g,j,none⟩ h.lt (fun e=>h.ne k hk (by injection e with e;exact e.symm))).trans (h.fz j),fun j hj=>?_,fun j hj=>?_,fun j hj=>h.ne j (by simpa using hj),fun i j hi hj=>h.inj i j (by simpa using hi) (by simpa using hj)⟩
 ·rw [List.length_set]
  exact (hg.cell_far ⟨g,j,none⟩ h.lt (fun e=>h.ne k hk (by injection e with e;exact e.symm))).trans (h.row j hj)
 ·rw [List.length_set] at hj
  rw [hgt j hj]
  split
  ·exact hb
  ·exact h.len j hj
 ·rw [List.length_set] at hj
  rw [hgt j hj]
  split
  ·subst_vars;exact ho
  ·next hne=>exact (h.own j hj).grown hg (.inr fun e=>hne (by
     have e2:bk j=bk k:=by injection e
     exact (h.inj j k hj hk e2).symm))
theorem P4.rd (h:P4 lo W g bk rs) (k:Nat) (hk:k < rs.length):RdB W W.heap.size (some ⟨bk k,0,none⟩) (rs.getD k []):=(h.own k hk).rdS.1
theorem P4.rdr (h:P4 lo W g bk rs):RdR W W.heap.size (some ⟨g,0,none⟩) rs :=
 ⟨by have:=h.n;omega,fun _=>⟨g,0,rfl,h.lt,fun k hk=>by
  have:=h.n
  have hc:=h.row k (by omega)
  rw [slv_yes hk] at hc
  exact ⟨_,32,by rw [Nat.zero_add,h.len k hk];exact hc,h.rd k hk⟩⟩⟩
theorem P4.rdr1 (h:P4 lo W g bk rs):RdR W W.heap.size (some ⟨g,1,none⟩) (rs.drop 1) :=
 ⟨by have:=h.n;simp;omega,fun _=>⟨g,1,rfl,h.lt,fun k hk=>by
  have:=h.n
  have hk':1 + k < rs.length:=by simp at hk;omega
  have hc:=h.row (1 + k) (by omega)
  rw [slv_yes hk'] at hc
  have e:(rs.drop 1).getD k []=rs.getD (1 + k) []:=by simp [List.getD_eq_getElem?_getD,Nat.add_comm]
  rw [e]
  exact ⟨_,32,by rw [h.len _ hk'];exact hc,h.rd _ hk'⟩⟩⟩
theorem p4_new (W:World):P4 W.heap.size (W.alloc (.cells (madeCells #[.slice none 0 0] 4) 35)) W.heap.size bk [] :=
 ⟨by simp,Nat.le_refl _,fun k hk=>by
  rw [cell_of_row _ _ k _ _ _ (heap_alloc_new W _),← Array.getElem?_toList,toList_madeCells_one,List.getElem?_replicate,if_pos hk]
  rfl,fun k=>World.frozen?_alloc_new _ _ _ _,fun k hk=>by simp at hk,fun k hk=>by simp at hk,fun k hk=>by simp at hk,fun j k hj=>by simp at hj⟩
theorem P4.push (h:P4 lo W g bk rs) (hl:lo ≤ W.heap.size) (k:Nat) (hk:rs.length=k) (hk4:k < 4) :
    P4 lo ((W.alloc (.cells (zcells 32) 5)).setCell ⟨g,k,none⟩ (.slice (some ⟨W.heap.size,0,none⟩) 32 32)) g (fun j=>if j=k then W.heap.size else bk j) (rs ++ [List.replicate 32 0]):=by
 subst hk
 have hlt:=h.lt
 have h1:=h.below (below1 W (.cells (zcells 32) 5))
 have ho:=(own_make 5 W 32 (by omega)).le hl
 generalize hV:W.alloc (.cells (zcells 32) 5)=V at h1 ho
 have hgr:V.grownBy (V.setCell ⟨g,rs.length,none⟩ (.slice (some ⟨W.heap.size,0,none⟩) 32 32)) (some g):=⟨rfl,rfl,rfl,by simp,fun k _ hne=>Below.heap_setCell V _ _ k (fun e=>hne (by rw [e]))⟩
 have hgl:∀ j,j < rs.length→(rs ++ [List.replicate 32 (0:UInt8)]).getD j []=rs.getD j []:=fun j hj=>by
  simp [List.getD_eq_getElem?_getD,List.getElem?_append_left hj]
 have hge:(rs ++ [List.replicate 32 (0:UInt8)]).getD rs.length []=List.replicate 32 0:=by simp [List.getD_eq_getElem?_getD]
 refine ⟨by simp;omega,h.gl,fun j hj=>?_,fun j=>?_,fun j hj=>?_,fun j hj=>?_,fun j hj=>?_,fun i j hi hj=>?_⟩
 ·by_cases e:j=rs.length
  ·subst e
   rw [World.cell?_setCell_same _ _ _ (h1.row _ hj),slv_yes (by simp)]
   simp
  ·rw [World.cell?_setCell_other _ _ _ _ (by intro q;injection q with _ q;exact e q.symm),h1.row j hj]
   congr 1
   unfold slv
   by_cases e2:j < rs.length
   ·rw [if_pos e2,if_pos (by simp;omega)];dsimp only;rw [if_neg e]
   ·rw [if_neg e2,if_neg (by simp;omega)]
 ·rw [World.frozen?_setCell];exact h1.fz j
 ·by_cases e:j=rs.length
  ·subst e;rw [hge];simp
  ·have hj':j < rs.length:=by simp at hj;omega
   rw [hgl j hj'];exact h.len j hj'
 ·by_cases e:j=rs.length
  ·subst e
   rw [hge,if_pos rfl]
   exact ho.grown hgr (.inr fun e=>by have:W.heap.size=g:=by injection e
                                      omega)
  ·have hj':j < rs.length:=by simp at hj;omega
   rw [hgl j hj',if_neg e]
   exact (h1.own j hj').grown hgr (.inr fun e=>h.ne j hj' (by injection e))
 ·by_cases e:j=rs.length
  ·rw [if_pos e];omega
  ·have hj':j < rs.length:=by simp at hj;omega
   rw [if_neg e];exact h.ne j hj'
 ·intro e
  by_cases ei:i=rs.length
  ·by_cases ej:j=rs.length
   ·omega
   ·have hj':j < rs.length:=by simp at hj;omega
    rw [if_pos ei,if_neg ej] at e
    have:=(h.blt j hj').2
    omega
  ·have hi':i < rs.length:=by simp at hi;omega
   by_cases ej:j=rs.length
   ·rw [if_neg ei,if_pos ej] at e
    have:=(h.blt i hi').2
    omega
   ·have hj':j < rs.length:=by simp at hj;omega
    rw [if_neg ei,if_neg ej] at e
    exact h.inj i j hi' hj' e
end
end Go.Proofs.YtenkkdnepmoihaaGreatDoor
end
section
set_option maxRecDepth 8000
set_option linter.unusedVariables false
set_option linter.unusedSimpArgs false
namespace Go.Proofs.YtenkkdnepmoihaaGreatDoor
open Go.RowKit
theorem copyB_zeros {b:List UInt8} (h:b.length ≤ 32):copyB z32 b=b ++ List.replicate (32 - b.length) 0:=by
 unfold copyB z32
 rw [List.length_replicate,List.take_of_length_le h,List.drop_replicate]
theorem copyB_32 {b:List UInt8} (h:b.length=32):copyB z32 b=b:=by
 rw [copyB_zeros (by omega),h];simp
theorem copyB_head {s:Int} {l:List It} (h:l.length ≤ 3):copyB z32 (hdB s l)=fullB s l:=by
 rw [copyB_zeros (by rw [hdB_len];omega)];rfl
def stgB (s:Int) (l:List It) (j:Nat):List (List UInt8):=fullB s l::partsB (l.take j)
theorem stgB_len (s:Int) (l:List It) {j:Nat} (h:l.length ≤ 3):(stgB s l j).length=4:=by
 show (partsB (l.take j)).length + 1=4
 rw [partsB_len (by simp;omega)]
theorem stgB_zero {s:Int} {l:List It} (h:l.length ≤ 3):(List.replicate 4 z32).set 0 (copyB z32 (hdB s l))=stgB s l 0:=by
 rw [copyB_head h];rfl
theorem stgB_get {s:Int} {l:List It} {j:Nat} (h:l.length ≤ 3) (hj:j < l.length):(stgB s l j).getD (1 + j) []=z32:=by
 have e:(stgB s l j).getD (1 + j) []=(partsB (l.take j)).getD j []:=by rw [Nat.add_comm];simp [stgB,List.getD_eq_getElem?_getD]
 rw [e]
 unfold partsB
 have hl:(List.map (fun x=>x.b) (l.take j)).length=j:=by simp;omega
 rw [List.getD_eq_getElem?_getD,List.getElem?_append_right (by omega),hl,Nat.sub_self,List.getElem?_replicate,if_pos (by simp;omega)]
 rfl
theorem stgB_succ {s:Int} {l:List It} {j:Nat} (h:l.length ≤ 3) (hj:j < l.length):(stgB s l j).set (1 + j) (itN l j).b=stgB s l (j + 1):=by
 have hl:(List.map (fun x=>x.b) (l.take j)).length=j:=by simp;omega
 have hlt:(l.take j).length=j:=by simp;omega
 have hlt2:(l.take (j + 1)).length=j + 1:=by simp;omega
 show (fullB s l::partsB (l.take j)).set (1 + j) _=fullB s l::partsB (l.take (j + 1))
 rw [Nat.add_comm,List.set_cons_succ]
 congr 1
 unfold partsB
 rw [hlt,hlt2,List.set_append_right _ _ (by omega),hl,Nat.sub_self,show 3 - j=(3 - (j + 1)) + 1 by omega,List.replicate_succ,List.set_cons_zero,its_take hj,List.map_append,List.append_assoc]
 rfl
theorem stgB_all {s:Int} {l:List It}:(stgB s l l.length).set 0 (stamped (fullB s l) (partsB l))=recB s l:=by
 unfold stgB;rw [List.take_length];rfl
theorem rep_snoc (k:Nat):List.replicate k z32 ++ [List.replicate 32 (0:UInt8)]=List.replicate (k + 1) z32:=by
 show List.replicate k z32 ++ [z32]=_
 exact List.replicate_succ'.symm
def EnS (w:World) (s:Int) (A:Option Addr) (n c g:Nat) (bk:Nat→Nat) (rs:List (List UInt8)) (V:World):Prop :=
 P4 (w.heap.size + 1) V g bk rs∧Below w.heap.size w V∧V.cell? ⟨w.heap.size,0,none⟩=some (.int .i64 s)∧V.cell? ⟨w.heap.size,1,none⟩=some (.slice A n c)
section
variable {w V V':World} {s:Int} {A:Option Addr} {n c g:Nat} {bk:Nat→Nat} {rs:List (List UInt8)}
theorem EnS.drew (h:EnS w s A n c g bk rs V):EnS w s A n c g bk rs V.drew:=⟨h.1.below ((Below.refl _ _).drew),h.2.1.drew,h.2.2.1,h.2.2.2⟩
theorem EnS.plt (h:EnS w s A n c g bk rs V):w.heap.size < V.heap.size:=World.block_lt_of_cell? _ _ h.2.2.1
theorem EnS.below (h:EnS w s A n c g bk rs V) (hb:Below V.heap.size V V'):EnS w s A n c g bk rs V' :=
 ⟨h.1.below hb,h.2.1.trans (hb.mono h.2.1.size),(hb.cell (p:=⟨w.heap.size,0,none⟩) h.plt).trans h.2.2.1,(hb.cell (p:=⟨w.heap.size,1,none⟩) h.plt).trans h.2.2.2⟩
theorem EnS.c0 (h:EnS w s A n c g bk rs V) (hn:0 < rs.length):V.cell? ⟨g,0,none⟩=some (.slice (some ⟨bk 0,0,none⟩) 32 32):=by
 have:=h.1.row 0 (by omega);rwa [slv_yes hn] at this
theorem EnS.cj {j:Nat} (h:EnS w s A n c g bk rs V) (hn:1 + j < rs.length):V.cell? ⟨g,1 + j,none⟩=some (.slice (some ⟨bk (1 + j),0,none⟩) 32 32):=by
 have:=h.1.row (1 + j) (by have:=h.1.n;omega);rwa [slv_yes hn] at this
theorem EnS.far {row:Nat} (h:EnS w s A n c g bk rs V) (hg:V.grownBy V' (some row)) (hr:w.heap.size + 1 ≤ row):Below w.heap.size w V'∧V'.cell? ⟨w.heap.size,0,none⟩=some (.int .i64 s)∧V'.cell? ⟨w.heap.size,1,none⟩=some (.slice A n c):=by
 have hne:∀ i,some (⟨w.heap.size,i,none⟩:Addr).block ≠ some row:=fun i e=>by injection e with e;have:w.heap.size=row:=e;omega
 exact ⟨h.2.1.grown hg h.2.1.size (fun k e=>by injection e with e;omega),(hg.cell_far _ h.plt (hne 0)).trans h.2.2.1,(hg.cell_far _ h.plt (hne 1)).trans h.2.2.2⟩
theorem EnS.set (h:EnS w s A n c g bk rs V) (k:Nat) (hk:k < rs.length) {b:List UInt8} (ho:OwB 5 V' (w.heap.size + 1) (.slice (some ⟨bk k,0,none⟩) 32 32) b) (hb:b.length=32) (hg:V.grownBy V' (some (bk k))):EnS w s A n c g bk (rs.set k b) V' :=
 ⟨h.1.set k hk ho hb hg,h.far hg (h.1.blt k hk).1⟩
theorem EnS.push (h:EnS w s A n c g bk rs V) (k:Nat) (hk:rs.length=k) (hk4:k < 4) :
    EnS w s A n c g (fun j=>if j=k then V.heap.size else bk j) (rs ++ [List.replicate 32 0]) ((V.alloc (.cells (zcells 32) 5)).setCell ⟨g,k,none⟩ (.slice (some ⟨V.heap.size,0,none⟩) 32 32)):=by
 refine ⟨h.1.push h.plt k hk hk4,?_⟩
 have h1:=h.below (below1 V (.cells (zcells 32) 5))
 have hgr:(V.alloc (.cells (zcells 32) 5)).grownBy ((V.alloc (.cells (zcells 32) 5)).setCell ⟨g,k,none⟩ (.slice (some ⟨V.heap.size,0,none⟩) 32 32)) (some g):=⟨rfl,rfl,rfl,by simp,fun k _ hne=>Below.heap_setCell _ _ _ k (fun e=>hne (by rw [e]))⟩
 exact h1.far hgr h.1.gl
theorem EnS.start {W:World} (h0:W.cell? ⟨w.heap.size,0,none⟩=some (.int .i64 s)) (h1:W.cell? ⟨w.heap.size,1,none⟩=some (.slice A n c)) (hb:Below w.heap.size w W) (bk:Nat→Nat) :
    EnS w s A n c W.heap.size bk [] (W.alloc (.cells (madeCells #[.slice none 0 0] 4) 35)):=by
 have hp:=World.block_lt_of_cell? _ _ h0
 have k:=fun (i:Nat) (u:Value) (e:W.cell? ⟨w.heap.size,i,none⟩=some u)=>(World.cell?_alloc_lt W (.cells (madeCells #[.slice none 0 0] 4) 35) ⟨w.heap.size,i,none⟩ hp).trans e
 exact ⟨(p4_new W).le hp,hb.alloc hb.size _,k _ _ h0,k _ _ h1⟩
def EnJ (w:World) (s:Int) (A:Option Addr) (n c g:Nat) (bk:Nat→Nat) (rs:List (List UInt8)) (q:Nat) (D:Option Addr) (cd:Nat) (V:World):Prop :=
 EnS w s A n c g bk rs V∧V.cell? ⟨q,2,none⟩=some (.slice D 32 cd)
end
theorem EnJ.drew {w V:World} {s:Int} {A:Option Addr} {n c g:Nat} {bk:Nat→Nat} {rs:List (List UInt8)} {q:Nat} {D:Option Addr} {cd:Nat} (h:EnJ w s A n c g bk rs q D cd V):EnJ w s A n c g bk rs q D cd V.drew:=⟨h.1.drew,h.2⟩
theorem encode_no (A:Option Addr) (n c:Nat) (s:Int) (l:List It) (w:World) (hn:l.length=n) (hnc:n ≤ c) (hs:(-9223372036854775808 ≤ s∧s ≤ 9223372036854775807)) (h:RdI w w.heap.size A l) (h64:Its64 l) (hk:Hid (recOk s l=false)) :
    Calls Tryz.prog 62 #[.agg #[.int .i64 s,.slice A n c]] w fun e w'=>e=.returned (.tuple #[.slice none 0 0,.int .i64 1])∧Below w.heap.size w w':=by
 have CC:=Lib.hid fun W (hW:Below w.heap.size w W)=>recCheck_no A n c s l W hn hnc hs (h.keep hW.size fun p hp=>hW.cell hp) h64 hk
 have B1:=Lib.hid (below1 w (.cells #[.int .i64 s,.slice A n c] 43))
 clear h h64 hk hn
 go_enter Tryz.func62,Tryz.ntmps62
 go_wp2_with fail
 refine (CC.out _ B1.out).mono ?_
 rintro e w1 ⟨rfl,hb⟩
 have B2:=B1.out.trans (hb.mono B1.out.size)
 go_wp2
 go_ret2
 exact ⟨rfl,B2⟩
set_option maxHeartbeats 4000000 in
theorem encode_yes (A:Option Addr) (n c:Nat) (s:Int) (l:List It) (w:World) (hn:l.length=n) (hnc:n ≤ c) (hs:(-9223372036854775808 ≤ s∧s ≤ 9223372036854775807)) (h:RdI w w.heap.size A l) (h64:Its64 l) (hk:Hid (recOk s l=true)) (ht:TabOk w) :
    Calls Tryz.prog 62 #[.agg #[.int .i64 s,.slice A n c]] w fun e w'=>∃ g bk,e=.returned (.tuple #[.slice (some ⟨g,0,none⟩) 4 4,.int .i64 0])∧P4 w.heap.size w' g bk (recB s l)∧Below w.heap.size w w':=by
 subst hn
 have hs3:=((recOk_iff s l).1 hk.out).1.2.2
 have CC:=Lib.hid fun W (hW:Below w.heap.size w W)=>recCheck_yes A l.length c s l W rfl hnc hs (h.keep hW.size fun p hp=>hW.cell hp) h64 hk
 have CH:=Lib.hid fun W (hW:Below w.heap.size w W)=>head_any A l.length c s l W rfl hnc (h.keep hW.size fun p hp=>hW.cell hp) hk.out
 have HK:=Lib.hid (fun (j:Nat) (hj:j < l.length)=>(recOk_may hk.out _ (itN_mem hj)).2.2.2.2)
 have H:=Lib.hid h
 have HT:=Lib.hid fun W (hW:Below w.heap.size w W)=>ht.below hW ht.pos
 have B1:=Lib.hid (below1 w (.cells #[.int .i64 s,.slice A l.length c] 43))
 have c':=fun i=>cell_of_row _ _ i _ _ _ (heap_alloc_new w (.cells #[.int .i64 s,.slice A l.length c] 43))
 have hm4:=make_four
 have hmk:∀ w,(Instr.makeSlice 35 (.int .i64 32) (.int .i64 32)).run Tryz.prog w=.ok (.slice (some ⟨w.heap.size,0,none⟩) 32 32) (w.alloc (.cells (zcells 32) 5)):=make_bytes 32 (by omega)
 have C0:=Lib.hid (c' 0)
 have C1:=Lib.hid (c' 1)
 clear h h64 hk ht c'
 go_enter Tryz.func62,Tryz.ntmps62
 go_wp2_with fail
 refine (CC.out _ B1.out).mono ?_
 rintro e w1 ⟨rfl,hb⟩
 have B2:=Lib.hid (B1.out.trans (hb.mono B1.out.size))
 have S0:=Lib.hid (EnS.start ((hb.cell (by simp)).trans C0.out) ((hb.cell (by simp)).trans C1.out) B2.out (fun _=>0))
 clear C0 C1 CC B1 hb
 obtain ⟨g,hg⟩:∃ g,w1.heap.size=g:=⟨_,rfl⟩
 rw [hg] at S0
 have Hg:=Lib.hid hg
 go_wp2
 clear hg
 go_loopw [17] (fun i wr=>∃ (k:Nat) (bk:Nat→Nat),k ≤ 4∧i=.int .i64 k∧EnS w s A l.length c g bk (List.replicate k z32) wr) (fun i _=>4 - (intOf i).toNat)
 case atStart=>exact ⟨0,_,by omega,rfl,S0.out⟩
 case round =>
  obtain ⟨k,bk,hk,rfl,hst⟩:=hrel
  have Hst:=Lib.hid hst
  clear hst
  clear S0 B2 hm4
  by_cases hlt:k < 4
  ·have hc:wr.cell? ⟨g,k,none⟩=some (.slice none 0 0):=by have:=Hst.out.1.row k hlt;rwa [slv_no (by simp)] at this
   have hf:wr.frozen? ⟨g,k,none⟩=false:=Hst.out.1.fz k
   have hgl:=Hst.out.1.lt
   have HP:=Lib.hid (Hst.out.push k (by simp) hlt)
   rw [rep_snoc] at HP
   go_wp2
   go_roundw
   case rel =>
    have HP2:=HP.out
    rw [World.setCell_alloc_past _ _ _ _ hgl] at HP2
    exact ⟨k + 1,_,by omega,by go_num,HP2⟩
   case measure=>simp [intOf];omega
  ·obtain rfl:k=4:=by omega
   clear hmk
   have CP:=Lib.hid (@copyB_head s l hs3)
   go_wp2
   refine wp_region_noPanic (region_ord 5 [] (fun V=>EnS w s A l.length c g bk (List.replicate 4 z32) V) (by kernel_rfl) (by kernel_rfl) (fun _ _ _ _ _ h=>h) fun R=>?_)
   change anyI _ _ _ _ _ _ 6 _ _ wr.drew
   have HS0:=Lib.hid (show (fun V=>EnS w s A l.length c g bk (List.replicate 4 z32) V) wr.drew from EnS.drew Hst.out)
   refine' anyI_take R 0 rfl (v:=?_) (by kernel_rfl) (by rfl) (fun V hV=>?hy) HS0.out ?_
   case hy=>((try dsimp only at hV); have r0:=EnS.c0 hV (by simp);obtain ⟨_,_,q0,q1⟩:=hV;go_simp;try with_reducible rfl)
   try simp only [Act.put,List.getElem_toArray,List.getElem_cons_succ,List.getElem_cons_zero,List.setIfInBounds_toArray,List.set_cons_zero,List.set_cons_succ]
   refine' anyI_take R 1 rfl (v:=?_) (by kernel_rfl) (by rfl) (fun V hV=>?hy) HS0.out ?_
   case hy=>((try dsimp only at hV); have r0:=EnS.c0 hV (by simp);obtain ⟨_,_,q0,q1⟩:=hV;go_simp;try with_reducible rfl)
   try simp only [Act.put,List.getElem_toArray,List.getElem_cons_succ,List.getElem_cons_zero,List.setIfInBounds_toArray,List.set_cons_zero,List.set_cons_succ]
   refine' anyI_take R 2 rfl (v:=?_) (by kernel_rfl) (by rfl) (fun V hV=>?hy) HS0.out ?_
   case hy=>((try dsimp only at hV); have r0:=EnS.c0 hV (by simp);obtain ⟨_,_,q0,q1⟩:=hV;go_simp;try with_reducible rfl)
   try simp only [Act.put,List.getElem_toArray,List.getElem_cons_succ,List.getElem_cons_zero,List.setIfInBounds_toArray,List.set_cons_zero,List.set_cons_succ]
   refine' anyI_take R 3 rfl (v:=?_) (by kernel_rfl) (by rfl) (fun V hV=>?hy) HS0.out ?_
   case hy=>((try dsimp only at hV); have r0:=EnS.c0 hV (by simp);obtain ⟨_,_,q0,q1⟩:=hV;go_simp;try with_reducible rfl)
   try simp only [Act.put,List.getElem_toArray,List.getElem_cons_succ,List.getElem_cons_zero,List.setIfInBounds_toArray,List.set_cons_zero,List.set_cons_succ]
   refine anyI_one 4 (by kernel_rfl) rfl ?_
   try simp only [List.getElem_toArray,List.getElem_cons_succ,List.getElem_cons_zero]
   refine opE_step ?_
   rw [if_pos (by rfl)]
   go_simp
   go_at_call 92
   refine (CH.out _ HS0.out.2.1).mono ?_
   rintro e w1 ⟨v1,rfl,OV,hb⟩
   replace HS0:=Lib.hid (EnS.below HS0.out hb)
   clear hb
   dsimp only
   refine ⟨HS0.out,?_⟩
   try simp only [Act.put,List.getElem_toArray,List.getElem_cons_succ,List.getElem_cons_zero,List.setIfInBounds_toArray,List.set_cons_zero,List.set_cons_succ]
   refine anyI_tail (by kernel_rfl) ?_
   try simp only [List.drop_succ_cons,List.drop_zero]
   clear R
   obtain ⟨A1,cap1,rfl,_,hr1⟩:=OV.rd
   clear OV
   refine wpList_copy_B rfl _ _ _ rfl 5 Tryz.underlying35 (by kernel_rfl) (bk 0) 32 32 (w.heap.size + 1) z32 rfl (HS0.out.1.own 0 (by simp)) rfl _ A1 (hdB s l).length cap1 (hdB s l) rfl rfl hr1 ?_
   intro w3 O3 g3 _
   have HS3:=Lib.hid (EnS.set HS0.out 0 (by simp) O3 (by rw [copyB_len];rfl) g3)
   rw [stgB_zero hs3] at HS3
   clear HS0 O3 g3 hr1
   go_wp2_with fail
   refine NoPanic.normal ?_
   refine ‹∀ (a:Act) (w:World),Code.wp _ (Code.seq _ _) _ a w→_› _ _ ?_
   obtain ⟨_,_,q0,q1⟩:=HS3.out
   go_wp2
   clear q0 q1 Hst
   go_loopw [34] (fun i wr=>∃ j:Nat,j ≤ l.length∧i=.int .i64 j∧EnS w s A l.length c g bk (stgB s l j) wr) (fun i _=>l.length - (intOf i).toNat)
   case atStart=>exact ⟨0,Nat.zero_le _,rfl,HS3.out⟩
   case round =>
    obtain ⟨j,hj,rfl,hst⟩:=hrel
    have Hst:=Lib.hid hst
    clear hst HS3
    by_cases hlt:j < l.length
    ·obtain ⟨ga,rfl,hg,hc⟩:=(H.out.below Hst.out.2.1 (Nat.le_refl _)).2 (by omega)
     obtain ⟨D',c',hrp,hrd⟩:=hc j hlt
     clear hc
     have hx:=HK.out j hlt
     have Hsu:=Lib.hid (stgB_succ (s:=s) hs3 hlt)
     have Hge:=Lib.hid (stgB_get (s:=s) hs3 hlt)
     generalize itN l j=y at hrp hrd hx Hsu
     rw [hx] at hrp
     have Hrp:=Lib.hid hrp
     have Hrd:=Lib.hid hrd
     have HB:=Lib.hid (below1 wr (.cells #[.int .i64 y.d,.int .i64 y.a,.slice D' 32 c'] 92))
     have HJ:Hid (EnJ w s (some ⟨ga,0,none⟩) l.length c g bk (stgB s l j) wr.heap.size D' c' (wr.alloc (.cells #[.int .i64 y.d,.int .i64 y.a,.slice D' 32 c'] 92))):=⟨Hst.out.below HB.out,cell_of_row _ _ 2 _ _ _ (heap_alloc_new wr _)⟩
     have HL:=Lib.hid Hst.out.2.1.size
     obtain ⟨q,hq⟩:∃ q,wr.heap.size=q:=⟨_,rfl⟩
     have k0:(0:Int) ≤ (j:Int):=by omega
     have k1:(j:Int) < (l.length:Int):=by omega
     have k2:IntKind.i64.wrap (1 + (j:Int))=1 + (j:Int):=by rw [IntKind.wrap_i64];omega
     have k3:0 ≤ 1 + (j:Int)∧1 + (j:Int) < 4:=by omega
     have k4:(1 + (j:Int)).toNat=1 + j:=by omega
     clear hrp hrd
     go_wp2_with (
         ((with_reducible refine (id ?_:wpList _ _ _ (⟨some 38,_,_,_,_,_⟩::_) _ _));refine wpList_load_mid rfl 92 _ (by rfl) ga (j * 3) (by rfl) [.int .i64 y.d,.int .i64 y.a,.slice D' 32 c'] _ Hrp.out Tryz.underlying92 rfl (by kernel_rfl) ?_))
     rw [hq] at HJ
     try rw [hq]
     go_name_world wz hwz
     have Hwz:=Lib.hid hwz
     rw [hwz] at HJ HB
     clear hwz
     refine wp_region_noPanic (region_ord 7 [] (fun V=>EnJ w s (some ⟨ga,0,none⟩) l.length c g bk (stgB s l j) q D' c' V) (by kernel_rfl) (by kernel_rfl) (fun _ _ _ _ _ h=>h) fun R=>?_)
     change anyI _ _ _ _ _ _ 8 _ _ wz.drew
     have HS0:=Lib.hid (show (fun V=>EnJ w s (some ⟨ga,0,none⟩) l.length c g bk (stgB s l j) q D' c' V) wz.drew from HJ.out.drew)
     refine' anyI_take R 0 rfl (v:=?_) (by kernel_rfl) (by rfl) (fun V hV=>?hy) HS0.out ?_
     case hy=>((try dsimp only at hV); have r0:=EnS.cj hV.1 (j:=j) (by rw [stgB_len _ _ (by omega)];omega);obtain ⟨_,q2⟩:=hV;go_simp;try with_reducible rfl)
     try simp only [Act.put,List.getElem_toArray,List.getElem_cons_succ,List.getElem_cons_zero,List.setIfInBounds_toArray,List.set_cons_zero,List.set_cons_succ]
     refine' anyI_take R 1 rfl (v:=?_) (by kernel_rfl) (by rfl) (fun V hV=>?hy) HS0.out ?_
     case hy=>((try dsimp only at hV); have r0:=EnS.cj hV.1 (j:=j) (by rw [stgB_len _ _ (by omega)];omega);obtain ⟨_,q2⟩:=hV;go_simp;try with_reducible rfl)
     try simp only [Act.put,List.getElem_toArray,List.getElem_cons_succ,List.getElem_cons_zero,List.setIfInBounds_toArray,List.set_cons_zero,List.set_cons_succ]
     refine' anyI_take R 2 rfl (v:=?_) (by kernel_rfl) (by rfl) (fun V hV=>?hy) HS0.out ?_
     case hy=>((try dsimp only at hV); have r0:=EnS.cj hV.1 (j:=j) (by rw [stgB_len _ _ (by omega)];omega);obtain ⟨_,q2⟩:=hV;go_simp;try with_reducible rfl)
     try simp only [Act.put,List.getElem_toArray,List.getElem_cons_succ,List.getElem_cons_zero,List.setIfInBounds_toArray,List.set_cons_zero,List.set_cons_succ]
     refine' anyI_take R 3 rfl (v:=?_) (by kernel_rfl) (by rfl) (fun V hV=>?hy) HS0.out ?_
     case hy=>((try dsimp only at hV); have r0:=EnS.cj hV.1 (j:=j) (by rw [stgB_len _ _ (by omega)];omega);obtain ⟨_,q2⟩:=hV;go_simp;try with_reducible rfl)
     try simp only [Act.put,List.getElem_toArray,List.getElem_cons_succ,List.getElem_cons_zero,List.setIfInBounds_toArray,List.set_cons_zero,List.set_cons_succ]
     refine' anyI_take R 4 rfl (v:=?_) (by kernel_rfl) (by rfl) (fun V hV=>?hy) HS0.out ?_
     case hy=>((try dsimp only at hV); have r0:=EnS.cj hV.1 (j:=j) (by rw [stgB_len _ _ (by omega)];omega);obtain ⟨_,q2⟩:=hV;go_simp;try with_reducible rfl)
     try simp only [Act.put,List.getElem_toArray,List.getElem_cons_succ,List.getElem_cons_zero,List.setIfInBounds_toArray,List.set_cons_zero,List.set_cons_succ]
     refine' anyI_take R 5 rfl (v:=?_) (by kernel_rfl) (by rfl) (fun V hV=>?hy) HS0.out ?_
     case hy=>((try dsimp only at hV); have r0:=EnS.cj hV.1 (j:=j) (by rw [stgB_len _ _ (by omega)];omega);obtain ⟨_,q2⟩:=hV;go_simp;try with_reducible rfl)
     try simp only [Act.put,List.getElem_toArray,List.getElem_cons_succ,List.getElem_cons_zero,List.setIfInBounds_toArray,List.set_cons_zero,List.set_cons_succ]
     refine' anyI_take R 6 rfl (v:=?_) (by kernel_rfl) (by rfl) (fun V hV=>?hy) HS0.out ?_
     case hy=>((try dsimp only at hV); have r0:=EnS.cj hV.1 (j:=j) (by rw [stgB_len _ _ (by omega)];omega);obtain ⟨_,q2⟩:=hV;go_simp;try with_reducible rfl)
     try simp only [Act.put,List.getElem_toArray,List.getElem_cons_succ,List.getElem_cons_zero,List.setIfInBounds_toArray,List.set_cons_zero,List.set_cons_succ]
     refine anyI_tail (by kernel_rfl) ?_
     try simp only [List.drop_succ_cons,List.drop_zero]
     clear R
     refine wpList_copy_B rfl _ _ _ rfl 5 Tryz.underlying35 (by kernel_rfl) (bk (1 + j)) 32 32 (w.heap.size + 1) z32 rfl (by have:=HS0.out.1.1.own (1 + j) (by rw [stgB_len _ _ hs3];omega);rwa [Hge.out] at this) rfl _ D' 32 c' y.b rfl hx.symm ((Hrd.out.below HB.out HL.out).below (Below.refl w.heap.size _).drew (Nat.le_refl _)) ?_
     intro w3 O3 g3 _
     have HS3:=Lib.hid (EnS.set HS0.out.1 (1 + j) (by rw [stgB_len _ _ hs3];omega) O3 (by rw [copyB_len];rfl) g3)
     rw [copyB_32 hx,Hsu.out] at HS3
     clear HS0 O3 g3 HJ
     go_wp2_with fail
     refine NoPanic.normal ?_
     go_wp2
     go_roundw
     case rel=>exact ⟨j + 1,by omega,by go_num,HS3.out⟩
     case measure=>simp [intOf];omega
    ·obtain rfl:j=l.length:=by omega
     have CS:=Lib.hid fun V (hV:EnS w s A l.length c g bk (stgB s l l.length) V)=>stamp_any (bk 0) 32 (w.heap.size + 1) (some ⟨g,1,none⟩) 3 (fullB s l) (partsB l) 3 V (partsB_len hs3) (hV.1.own 0 (by rw [stgB_len _ _ hs3];omega)) (fullB_len hs3) (by have:=hV.1.rdr1;rwa [show (stgB s l l.length).drop 1=partsB l by unfold stgB;rw [List.take_length];rfl] at this) (HT.out _ hV.2.1)
     go_wp2
     refine wp_region_noPanic (region_ord 6 [] (fun V=>V.cell? ⟨g,0,none⟩=some (.slice (some ⟨bk 0,0,none⟩) 32 32)) (by kernel_rfl) (by kernel_rfl) (fun _ _ _ _ _ h=>h) fun R=>?_)
     change anyI _ _ _ _ _ _ 6 _ _ wr.drew
     have HS0:=Lib.hid (show (fun V=>V.cell? ⟨g,0,none⟩=some (.slice (some ⟨bk 0,0,none⟩) 32 32)) wr.drew from EnS.c0 Hst.out.drew (by rw [stgB_len _ _ hs3];omega))
     refine' anyI_take R 0 rfl (v:=?_) (by kernel_rfl) (by rfl) (fun V hV=>?hy) HS0.out ?_
     case hy=>((try dsimp only at hV); have r0:=hV;go_simp;try with_reducible rfl)
     try simp only [Act.put,List.getElem_toArray,List.getElem_cons_succ,List.getElem_cons_zero,List.setIfInBounds_toArray,List.set_cons_zero,List.set_cons_succ]
     refine' anyI_take R 1 rfl (v:=?_) (by kernel_rfl) (by rfl) (fun V hV=>?hy) HS0.out ?_
     case hy=>((try dsimp only at hV); have r0:=hV;go_simp;try with_reducible rfl)
     try simp only [Act.put,List.getElem_toArray,List.getElem_cons_succ,List.getElem_cons_zero,List.setIfInBounds_toArray,List.set_cons_zero,List.set_cons_succ]
     refine' anyI_take R 2 rfl (v:=?_) (by kernel_rfl) (by rfl) (fun V hV=>?hy) HS0.out ?_
     case hy=>((try dsimp only at hV); have r0:=hV;go_simp;try with_reducible rfl)
     try simp only [Act.put,List.getElem_toArray,List.getElem_cons_succ,List.getElem_cons_zero,List.setIfInBounds_toArray,List.set_cons_zero,List.set_cons_succ]
     refine' anyI_take R 3 rfl (v:=?_) (by kernel_rfl) (by rfl) (fun V hV=>?hy) HS0.out ?_
     case hy=>((try dsimp only at hV); have r0:=hV;go_simp;try with_reducible rfl)
     try simp only [Act.put,List.getElem_toArray,List.getElem_cons_succ,List.getElem_cons_zero,List.setIfInBounds_toArray,List.set_cons_zero,List.set_cons_succ]
     refine' anyI_take R 4 rfl (v:=?_) (by kernel_rfl) (by rfl) (fun V hV=>?hy) HS0.out ?_
     case hy=>((try dsimp only at hV); have r0:=hV;go_simp;try with_reducible rfl)
     try simp only [Act.put,List.getElem_toArray,List.getElem_cons_succ,List.getElem_cons_zero,List.setIfInBounds_toArray,List.set_cons_zero,List.set_cons_succ]
     refine anyI_one 5 (by kernel_rfl) rfl ?_
     try simp only [List.getElem_toArray,List.getElem_cons_succ,List.getElem_cons_zero]
     refine opE_step ?_
     rw [if_pos (by rfl)]
     go_simp
     go_at_call 93
     refine (CS.out _ Hst.out.drew).mono ?_
     rintro e w5 ⟨rfl,O5,g5⟩
     have HS5:=Lib.hid (EnS.set Hst.out.drew 0 (by rw [stgB_len _ _ hs3];omega) O5 (stamped_len _ _ (fullB_len hs3)) g5)
     replace HS0:=Lib.hid (EnS.c0 HS5.out (by rw [List.length_set,stgB_len _ _ hs3];omega))
     clear g5 O5
     dsimp only
     refine ⟨HS0.out,?_⟩
     try simp only [Act.put,List.getElem_toArray,List.getElem_cons_succ,List.getElem_cons_zero,List.setIfInBounds_toArray,List.set_cons_zero,List.set_cons_succ]
     refine anyI_tail (by kernel_rfl) ?_
     try simp only [List.drop_succ_cons,List.drop_zero]
     clear R
     go_wp2_with fail
     refine NoPanic.normal ?_
     rw [stgB_all] at HS5
     go_wp2
     go_ret2
     exact ⟨g,bk,rfl,HS5.out.1.le (Nat.le_succ _),HS5.out.2.1⟩
end Go.Proofs.YtenkkdnepmoihaaGreatDoor
end
section
set_option maxRecDepth 8000
set_option linter.unusedVariables false
set_option linter.unusedSimpArgs false
namespace Go.Proofs.YtenkkdnepmoihaaGreatDoor
open Go.RowKit
def rwv (bk cp:Nat→Nat) (k:Nat):Value:=.slice (some ⟨bk k,0,none⟩) 32 (cp k)
def rwvs (bk cp:Nat→Nat) (n:Nat):List Value:=(List.range n).map (rwv bk cp)
theorem rwvs_len (bk cp:Nat→Nat) (n:Nat):(rwvs bk cp n).length=n:=by simp [rwvs]
theorem rwvs_get {bk cp:Nat→Nat} {n k:Nat} (hk:k < n):(rwvs bk cp n)[k]?=some (rwv bk cp k):=by simp [rwvs,hk]
structure Rw (lo:Nat) (W:World) (g cap n:Nat) (bk cp:Nat→Nat) (rs:List (List UInt8)):Prop where
 row:W.ownsRow lo 35 1 (.slice (some ⟨g,0,none⟩) n cap) n (rwvs bk cp n)
 nn:rs.length=n
 n9:n ≤ 9
 len:∀ k,k < n→(rs.getD k []).length=32
 own:∀ k,k < n→OwB 5 W lo (.slice (some ⟨bk k,0,none⟩) 32 (cp k)) (rs.getD k [])
 ne:∀ k,k < n→bk k ≠ g
 inj:∀ j k,j < n→k < n→bk j=bk k→j=k
section
variable {lo:Nat} {W W':World} {g cap n:Nat} {bk cp:Nat→Nat} {rs:List (List UInt8)}
theorem Rw.glt (h:Rw lo W g cap n bk cp rs):lo ≤ g∧g < W.heap.size:=h.row.lt g rfl
theorem Rw.blt (h:Rw lo W g cap n bk cp rs) (k:Nat) (hk:k < n):lo ≤ bk k∧bk k < W.heap.size:=(h.own k hk).lt _ rfl
theorem Rw.ccap (h:Rw lo W g cap n bk cp rs) (k:Nat) (hk:k < n):32 ≤ cp k:=(h.own k hk).rdS.2.2
theorem Rw.cell (h:Rw lo W g cap n bk cp rs) (k:Nat) (hk:k < n):W.cell? ⟨g,k,none⟩=some (.slice (some ⟨bk k,0,none⟩) 32 (cp k)):=by
 rw [rx_cell_at h.row k (by rw [rwvs_len];exact hk),rwvs_get hk];rfl
theorem Rw.rd (h:Rw lo W g cap n bk cp rs) (k:Nat) (hk:k < n):RdB W W.heap.size (some ⟨bk k,0,none⟩) (rs.getD k []):=(h.own k hk).rdS.1
theorem Rw.grown {row:Option Nat} (h:Rw lo W g cap n bk cp rs) (hg:W.grownBy W' row) (h1:row ≠ some g) (h2:∀ k,k < n→row ≠ some (bk k)):Rw lo W' g cap n bk cp rs :=
 ⟨h.row.kept hg (.inr fun e=>h1 e.symm),h.nn,h.n9,h.len,fun k hk=>(h.own k hk).grown hg (.inr fun e=>h2 k hk e.symm),h.ne,h.inj⟩
theorem Rw.below (h:Rw lo W g cap n bk cp rs) (hb:Below W.heap.size W W'):Rw lo W' g cap n bk cp rs:=h.grown (grown_none hb) (by simp) (by simp)
theorem Rw.le {lo':Nat} (h:Rw lo W g cap n bk cp rs) (hl:lo' ≤ lo):Rw lo' W g cap n bk cp rs :=
 ⟨⟨h.row.1,by
  rcases h.row.2 with h1 | ⟨g',c',cur,h1,h2,r⟩
  ·exact .inl h1
  ·exact .inr ⟨g',c',cur,h1,Nat.le_trans hl h2,r⟩⟩,h.nn,h.n9,h.len,fun k hk=>(h.own k hk).le hl,h.ne,h.inj⟩
theorem rs_set_get {rs:List (List UInt8)} {k j:Nat} {b:List UInt8} (hk:k < rs.length):(rs.set k b).getD j []=if k=j then b else rs.getD j []:=by
 simp only [List.getD_eq_getElem?_getD,List.getElem?_set]
 split
 ·subst_vars;simp [hk]
 ·rfl
theorem Rw.set (h:Rw lo W g cap n bk cp rs) (k:Nat) (hk:k < n) {b:List UInt8} (ho:OwB 5 W' lo (.slice (some ⟨bk k,0,none⟩) 32 (cp k)) b) (hb:b.length=32) (hg:W.grownBy W' (some (bk k))):Rw lo W' g cap n bk cp (rs.set k b):=by
 have hkl:k < rs.length:=by rw [h.nn];exact hk
 refine ⟨h.row.kept hg (.inr fun e=>h.ne k hk (by injection e with e;exact e.symm)),by rw [List.length_set];exact h.nn,h.n9,fun j hj=>?_,fun j hj=>?_,h.ne,h.inj⟩
 ·rw [rs_set_get hkl];split
  ·exact hb
  ·exact h.len j hj
 ·rw [rs_set_get hkl];split
  ·subst_vars;exact ho
  ·next hne=>exact (h.own j hj).grown hg (.inr fun e=>hne (by
     have e2:bk j=bk k:=by injection e
     exact (h.inj j k hj hk e2).symm))
theorem Rw.rdc (h:Rw lo W g cap n bk cp rs):RdC W W.heap.size (some ⟨g,0,none⟩) rs :=
 ⟨by have:=h.nn;have:=h.n9;omega,fun _=>⟨g,0,rfl,h.glt.2,fun k hk=>by
  have hk':k < n:=by rw [← h.nn];exact hk
  exact ⟨_,cp k,by rw [Nat.zero_add,h.len k hk'];exact h.cell k hk',by rw [h.len k hk'];exact h.ccap k hk',h.rd k hk'⟩⟩⟩
theorem Rw.rdv (h:Rw lo W g cap n bk cp rs):RdV W W.heap.size (some ⟨g,0,none⟩) (rwvs bk cp n):=fun _=>⟨g,0,rfl,h.glt.2,fun k hk=>by rw [Nat.zero_add];exact rx_cell_at h.row k hk⟩
theorem rwvs_one (bk cp:Nat→Nat) (n:Nat):∀ u ∈ rwvs bk cp n,u.oneCell'=true:=fun u hu=>by
 simp only [rwvs,List.mem_map] at hu
 obtain ⟨k,_,rfl⟩:=hu
 rfl
end
structure Mk (lo:Nat) (V:World) (bs:List Nat):Prop where
 own:∀ b ∈ bs,OwB 5 V lo (.slice (some ⟨b,0,none⟩) 32 32) z32
 nd:bs.Nodup
 lo:lo ≤ V.heap.size
theorem Mk.nil (V:World) (lo:Nat) (h:lo ≤ V.heap.size):Mk lo V []:=⟨fun b hb=>by simp at hb,by simp,h⟩
theorem Mk.push {lo:Nat} {V:World} {bs:List Nat} (h:Mk lo V bs):Mk lo (V.alloc (.cells (zcells 32) 5)) (V.heap.size::bs):=by
 refine ⟨fun b hb=>?_,List.nodup_cons.2 ⟨fun hm=>?_,h.nd⟩,by have:=h.lo;simp;omega⟩
 ·rcases List.mem_cons.1 hb with rfl | hb
  ·exact (own_make 5 V 32 (by omega)).le h.lo
  ·exact (h.own b hb).below (below1 V _)
 ·have:=((h.own _ hm).lt V.heap.size rfl).2;omega
theorem Mk.row {lo:Nat} {V:World} {bs:List Nat} (h:Mk lo V bs) (l:List Nat) (hl:l.length ≤ 9) (hs:∀ b ∈ l,b ∈ bs) (hn:l.Nodup) :
    Rw lo (V.alloc (.cells (l.map fun b=>Value.slice (some ⟨b,0,none⟩) 32 32).toArray 35)) V.heap.size l.length l.length (fun k=>l.getD k 0) (fun _=>32) (List.replicate l.length z32):=by
 have hm:∀ k,k < l.length→l.getD k 0 ∈ l:=fun k hk=>by
  rw [List.getD_eq_getElem?_getD,List.getElem?_eq_getElem hk];exact List.getElem_mem hk
 have hr:=World.ownsRow_lit (base:=lo) (e:=35) (size:=1) V (l.map fun b=>Value.slice (some ⟨b,0,none⟩) 32 32).toArray l.length h.lo (by unfold maxLen;omega) (by simp)
 have e:(l.map fun b=>Value.slice (some ⟨b,0,none⟩) 32 32).toArray.toList=rwvs (fun k=>l.getD k 0) (fun _=>32) l.length:=by
  apply List.ext_getElem (by simp [rwvs])
  intro k h1 h2
  have hk:k < l.length:=by simpa using h1
  simp [rwvs,rwv,List.getD_eq_getElem?_getD,hk]
 rw [e] at hr
 have hz:∀ k,k < l.length→(List.replicate l.length z32).getD k []=z32:=fun k hk=>by simp [List.getD_eq_getElem?_getD,hk]
 refine ⟨hr,by simp,hl,fun k hk=>by rw [hz k hk];rfl,fun k hk=>?_,fun k hk=>?_,fun j k hj hk e=>?_⟩
 ·rw [hz k hk];exact (h.own _ (hs _ (hm k hk))).below (below1 V _)
 ·have:=((h.own _ (hs _ (hm k hk))).lt (l.getD k 0) rfl).2
  omega
 ·try dsimp only at e
  rw [List.getD_eq_getElem?_getD,List.getD_eq_getElem?_getD,List.getElem?_eq_getElem hj,List.getElem?_eq_getElem hk] at e
  have hp:=List.pairwise_iff_getElem.1 hn
  rcases Nat.lt_trichotomy j k with h1 | h1 | h1
  ·exact absurd e (hp j k hj hk h1)
  ·exact h1
  ·exact absurd e.symm (hp k j hk hj h1)
end Go.Proofs.YtenkkdnepmoihaaGreatDoor
end
