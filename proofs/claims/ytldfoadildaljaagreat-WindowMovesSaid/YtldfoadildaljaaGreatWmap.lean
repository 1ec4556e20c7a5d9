/- Texts put together: DskLeft, Off, Rq, PlaySecs, SameS, RecSec, RecEnc, RecOf, RecOfA. -/
import Derived.Test.YtldfoadildaljaaGreatWmak
import Derived.Test.YtldfoadildaljaaGreatWmad
import Derived.Test.YtldfoadildaljaaGreatWmam
import Derived.Test.YtldfoadildaljaaGreatWmah
import Derived.Laws.OwnMore
import Derived.Test.YtldfoadildaljaaGreatWmaa
import Derived.Test.YtldfoadildaljaaGreatWmal
section
namespace Go.Proofs.YtldfoadildaljaaGreat
open Go.RowKit
end Go.Proofs.YtldfoadildaljaaGreat
end
section
namespace Go.Proofs.YtldfoadildaljaaGreat
open Go.RowKit
def Off (v:Value) (b:Nat) (pv:Value):Prop:=∀ k,v.ownBlock=some k→¬ DF b pv k
def Apart (b:Nat) (pv:Value) (b2:Nat) (pv2:Value):Prop:=∀ k,DF b pv k→¬ DF b2 pv2 k
theorem DskAt.apart {w w':World} {B b b2:Nat} {pv pv2:Value} {D:Dsk} (hd:DskAt w B b pv D) (h:Apart b pv b2 pv2) (hc:Chg (DF b2 pv2) w w'):DskAt w' B b pv D :=
 hd.chg hc (fun e=>h b (.inl rfl) e) fun k hk e=>h k (.inr hk) e
end Go.Proofs.YtldfoadildaljaaGreat
end
section
set_option maxRecDepth 8000
set_option linter.unusedVariables false
set_option linter.unusedSimpArgs false
namespace Go.Proofs.YtldfoadildaljaaGreat
open Go.RowKit
structure Rq (lo:Nat) (W:World) (g cap n:Nat) (xs:List Value) (rs:List (List UInt8)):Prop where
 row:W.ownsRow lo 48 1 (.slice (some ⟨g,0,none⟩) n cap) n xs
 nn:rs.length=n
 own:∀ (k:Nat) (v:Value),xs[k]?=some v→OwB 5 W lo v (rs.getD k [])
 ne:∀ (k:Nat) (v:Value),xs[k]?=some v→v.ownBlock ≠ some g
 inj:∀ (j k:Nat) (v u:Value),xs[j]?=some v→xs[k]?=some u→v.ownBlock=u.ownBlock→v.ownBlock ≠ none→j=k
section
variable {lo:Nat} {W W':World} {g cap n:Nat} {xs:List Value} {rs:List (List UInt8)}
theorem Rq.len (h:Rq lo W g cap n xs rs):xs.length=n:=by have:=h.row.1;omega
theorem Rq.glt (h:Rq lo W g cap n xs rs):lo ≤ g∧g < W.heap.size:=h.row.lt g rfl
theorem Rq.room (h:Rq lo W g cap n xs rs):n ≤ cap∧cap ≤ maxLen:=by
 rcases h.row.2 with ⟨h1,_⟩ | ⟨g',cap',cur,h1,_,_,h3,h4,_⟩
 ·cases h1
 ·injection h1 with _ _ h1;omega
theorem Rq.fz (h:Rq lo W g cap n xs rs) (k:Nat):W.frozen? ⟨g,k,none⟩=false:=h.row.frozenAt k
theorem Rq.at (h:Rq lo W g cap n xs rs) (k:Nat) (hk:k < n):∃ A c,xs[k]?=some (.slice A (rs.getD k []).length c)∧W.cell? ⟨g,k,none⟩=some (.slice A (rs.getD k []).length c)∧OwB 5 W lo (.slice A (rs.getD k []).length c) (rs.getD k []):=by
 obtain ⟨v,hv⟩:∃ v,xs[k]?=some v:=⟨_,List.getElem?_eq_getElem (by rw [h.len];exact hk)⟩
 have ho:=h.own k v hv
 obtain ⟨A,c,rfl,_,_⟩:=ho.rd
 exact ⟨A,c,hv,by rw [h.row.cellAt k (by omega)];exact hv,ho⟩
theorem Rq.grown {row:Option Nat} (h:Rq lo W g cap n xs rs) (hg:W.grownBy W' row) (h1:row ≠ some g) (h2:∀ (k:Nat) (v:Value),xs[k]?=some v→v.ownBlock=none∨v.ownBlock ≠ row):Rq lo W' g cap n xs rs :=
 ⟨h.row.kept hg (.inr fun e=>h1 e.symm),h.nn,fun k v hv=>(h.own k v hv).grown hg (h2 k v hv),h.ne,h.inj⟩
theorem Rq.below (h:Rq lo W g cap n xs rs) (hb:Below W.heap.size W W'):Rq lo W' g cap n xs rs:=h.grown (grown_none hb) (by simp) (fun k v _=>by cases v.ownBlock <;> simp)
theorem Rq.le {lo':Nat} (h:Rq lo W g cap n xs rs) (hl:lo' ≤ lo):Rq lo' W g cap n xs rs :=
 ⟨⟨h.row.1,by
  rcases h.row.2 with h1 | ⟨g',c',cur,h1,h2,r⟩
  ·exact .inl h1
  ·exact .inr ⟨g',c',cur,h1,Nat.le_trans hl h2,r⟩⟩,h.nn,fun k v hv=>(h.own k v hv).le hl,h.ne,h.inj⟩
theorem rq_set_get {rs:List (List UInt8)} {k j:Nat} {b:List UInt8} (hk:k < rs.length):(rs.set k b).getD j []=if k=j then b else rs.getD j []:=by
 simp only [List.getD_eq_getElem?_getD,List.getElem?_set]
 split
 ·subst_vars;simp [hk]
 ·rfl
theorem Rq.set (h:Rq lo W g cap n xs rs) (k:Nat) (hk:k < n) {v:Value} {b:List UInt8} (ho:OwB 5 W lo v b) (hg:v.ownBlock ≠ some g) (hne:∀ (j:Nat) (u:Value),xs[j]?=some u→v.ownBlock=none∨v.ownBlock ≠ u.ownBlock) :
    Rq lo (W.setCell ⟨g,k,none⟩ v) g cap n (xs.set k v) (rs.set k b)∧W.grownBy (W.setCell ⟨g,k,none⟩ v) (some g):=by
 have hkl:k < rs.length:=by rw [h.nn];exact hk
 have hkx:k < xs.length:=by rw [h.len];exact hk
 obtain ⟨h1,h2⟩:=h.row.stored k v
 have hold:∀ (j:Nat) (u:Value),(xs.set k v)[j]?=some u→(k=j∧u=v)∨(k ≠ j∧xs[j]?=some u):=fun j u hu=>by
  by_cases e:k=j
  ·subst e
   rw [List.getElem?_set_self hkx] at hu
   injection hu with hu
   exact .inl ⟨rfl,hu.symm⟩
  ·rw [List.getElem?_set_ne e] at hu
   exact .inr ⟨e,hu⟩
 refine ⟨⟨h1,by rw [List.length_set];exact h.nn,fun j u hu=>?_,fun j u hu=>?_,fun i j u w hu hw e hn=>?_⟩,h2⟩
 ·rw [rq_set_get hkl]
  rcases hold j u hu with ⟨rfl,rfl⟩ | ⟨e,hu⟩
  ·rw [if_pos rfl];exact ho.grown h2 (.inr hg)
  ·rw [if_neg e];exact (h.own j u hu).grown h2 (.inr (h.ne j u hu))
 ·rcases hold j u hu with ⟨rfl,rfl⟩ | ⟨e,hu⟩
  ·exact hg
  ·exact h.ne j u hu
 ·rcases hold i u hu with ⟨rfl,rfl⟩ | ⟨e1,hu2⟩
  ·rcases hold j w hw with ⟨rfl,rfl⟩ | ⟨e2,hw2⟩
   ·rfl
   ·rcases hne j w hw2 with h3 | h3
    ·exact absurd h3 hn
    ·exact absurd e h3
  ·rcases hold j w hw with ⟨rfl,rfl⟩ | ⟨e2,hw2⟩
   ·rcases hne i u hu2 with h3 | h3
    ·exact absurd (e.trans h3) hn
    ·exact absurd e.symm h3
   ·exact h.inj i j u w hu2 hw2 e hn
theorem Rq.step (h:Rq lo W g cap n xs rs) (hb:Below W.heap.size W W') (k:Nat) (hk:k < n) {v:Value} {b:List UInt8} (ho:OwB 5 W' W.heap.size v b) :
    Rq lo (W'.setCell ⟨g,k,none⟩ v) g cap n (xs.set k v) (rs.set k b)∧W'.grownBy (W'.setCell ⟨g,k,none⟩ v) (some g):=by
 have hg:=h.glt
 refine (h.below hb).set k hk (ho.le (by omega)) (fun e=>?_) (fun j u hu=>?_)
 ·have:=(ho.lt g e).1;omega
 ·rcases hv:v.ownBlock with _ | q
  ·exact .inl rfl
  ·refine .inr fun e=>?_
   have h1:=(ho.lt q hv).1
   have h2:=((h.own j u hu).lt q e.symm).2
   omega
theorem Rq.rowsY (h:Rq lo W g cap n xs rs):RowsY W lo (some g) xs rs :=
 ⟨by rw [h.len,h.nn],fun k hk=>by
  obtain ⟨A,c,h1,_,h3⟩:=h.at k (by rw [← h.nn];exact hk)
  refine ⟨A,c,h1,h3.rdbf,fun hp a ha=>?_⟩
  obtain ⟨q,c2,e,_,_⟩:=h3.pos hp
  injection e with e _ _
  have:=h.ne k _ h1
  rw [e] at this ha
  injection ha with ha
  subst ha
  exact this⟩
theorem Rq.owr (h:Rq lo W g cap n xs rs):OwR W lo g n cap rs:=⟨h.nn,h.room.1,h.glt.1,xs,h.row,h.rowsY⟩
theorem Rq.rdr (h:Rq lo W g cap n xs rs) (hn:n ≤ 1000000):RdR W W.heap.size (some ⟨g,0,none⟩) rs:=h.owr.rdr (by omega)
theorem rq_new (w:World) (n:Nat) (hn:n ≤ 1000000):Rq w.heap.size (w.alloc (.cells (madeCells #[.slice none 0 0] n) 48)) w.heap.size n n (List.replicate n (.slice none 0 0)) (List.replicate n []):=by
 have hr:=World.ownsRow_lit (base:=w.heap.size) (e:=48) (size:=1) w (madeCells #[.slice none 0 0] n) n (Nat.le_refl _) (by unfold maxLen;omega) (by simp [size_madeCells])
 rw [toList_madeCells_one] at hr
 have hnil:∀ (k:Nat) (v:Value),(List.replicate n (Value.slice none 0 0))[k]?=some v→v=.slice none 0 0:=fun k v hv=>by
  rw [List.getElem?_replicate] at hv
  split at hv
  ·injection hv with hv;exact hv.symm
  ·cases hv
 have hget:∀ k:Nat,(List.replicate n ([]:List UInt8)).getD k []=[]:=fun k=>by
  rw [List.getD_eq_getElem?_getD,List.getElem?_replicate];split <;> rfl
 refine ⟨hr,by simp,fun k v hv=>?_,fun k v hv=>?_,fun j k v u hv hu e hn=>?_⟩
 ·rw [hnil k v hv,hget];exact OwB.nil _ _ _
 ·rw [hnil k v hv];simp [Value.ownBlock]
 ·rw [hnil j v hv] at hn;exact absurd rfl hn
end
end Go.Proofs.YtldfoadildaljaaGreat
end
section
set_option maxRecDepth 8000
set_option linter.unusedVariables false
set_option linter.unusedSimpArgs false
namespace Go.Proofs.YtldfoadildaljaaGreat
open Go.RowKit
theorem info_row2:(Tryz.prog.info? 48).map (fun i=>(i.zero,i.size,i.bytes))=some (some (.slice none 0 0),1,24):=by kernel_rfl
def OwV (lo:Nat) (w:World) (v:Value) (rs:List (List UInt8)):Prop:=∃ xs,w.ownsRow lo 48 1 v rs.length xs∧RowsY w lo v.ownBlock xs rs
theorem OwV.le {lo lo':Nat} {w:World} {v:Value} {rs:List (List UInt8)} (h:OwV lo w v rs) (hB:lo' ≤ lo):OwV lo' w v rs:=by
 obtain ⟨xs,h1,h2⟩:=h
 refine ⟨xs,⟨h1.1,?_⟩,h2.1,fun k hk=>?_⟩
 ·rcases h1.2 with h3 | ⟨g',cap',cur,h3,h4,r⟩
  ·exact .inl h3
  ·exact .inr ⟨g',cap',cur,h3,by omega,r⟩
 ·obtain ⟨A,c,h3,h4,h5⟩:=h2.2 k hk
  exact ⟨A,c,h3,h4.le hB,h5⟩
theorem OwV.rd {lo:Nat} {w:World} {v:Value} {rs:List (List UInt8)} (h:OwV lo w v rs) (hl:rs.length ≤ 140737488355328):∃ A cap,v=.slice A rs.length cap∧rs.length ≤ cap∧RdR w w.heap.size A rs:=by
 obtain ⟨xs,h1,h2⟩:=h
 obtain ⟨A,c,h3,h4,h5⟩:=rdf_own h1 hl h2
 exact ⟨A,c,h3,h4,h5.rdr⟩
theorem OwV.owr {lo:Nat} {w:World} {v:Value} {rs:List (List UInt8)} (h:OwV lo w v rs) (h0:0 < rs.length):∃ g cap,v=.slice (some ⟨g,0,none⟩) rs.length cap∧OwR w lo g rs.length cap rs:=by
 obtain ⟨xs,h1,h2⟩:=h
 rcases h1.2 with ⟨_,h3⟩ | ⟨g,cap,cur,rfl,hb,hg,hc,r⟩
 ·omega
 ·exact ⟨g,cap,rfl,rfl,hc,hb,xs,h1,h2⟩
theorem OwV.nil (lo:Nat) (w:World):OwV lo w (.slice none 0 0) []:=⟨[],World.ownsRow_nil _ _ _ _,RowsY.nil _ _ _⟩
def secZ (zs:List Int) (i:Nat):Int:=if i < zs.length then zs.getD i 0 else 3 * (i:Int)
def sectorsB (zs:List Int) (n:Nat):List (List UInt8):=(List.range n).map fun i=>sectorB (secZ zs i)
theorem sectorsB_len (zs:List Int) (n:Nat):(sectorsB zs n).length=n:=by simp [sectorsB]
theorem sectorsB_mem {zs:List Int} {n:Nat}:∀ x ∈ sectorsB zs n,x.length=32:=fun x hx=>by
 unfold sectorsB at hx
 obtain ⟨i,_,rfl⟩:=List.mem_map.1 hx
 exact sectorB_len _
theorem sectorsB_snoc (zs:List Int) (k:Nat):sectorsB zs (k + 1)=sectorsB zs k ++ [sectorB (secZ zs k)]:=by
 unfold sectorsB
 rw [List.range_succ,List.map_append]
 rfl
set_option maxHeartbeats 1600000 in
theorem sectors_any (A:Option Addr) (zs:List Int) (m cp n:Nat) (w:World) (hm:m=zs.length) (hr:RdZ w w.heap.size A zs) (hn:n ≤ 1000) :
    Calls Tryz.prog 27 #[.slice A m cp,.int .i64 (n:Int)] w fun e w'=>∃ v,e=.returned v∧OwV w.heap.size w' v (sectorsB zs n)∧Below w.heap.size w w':=by
 subst hm
 have hz:=hr.1
 go_enter Tryz.func27,Tryz.ntmps27
 go_wp2
 go_loopw [5,6] (fun o i wr=>∃ (k:Nat) (vs:List Value),k ≤ n∧i=.int .i64 k∧wr.ownsRow w.heap.size 48 1 o k vs∧RowsY wr w.heap.size o.ownBlock vs (sectorsB zs k)∧Below w.heap.size w wr) (fun _ i _=>n - (intOf i).toNat)
 case atStart=>exact ⟨0,[],Nat.zero_le _,rfl,World.ownsRow_nil _ _ _ _,RowsY.nil _ _ _,Below.refl _ _⟩
 case round =>
  obtain ⟨k,vs,hk,rfl,hown,hrows,hbr⟩:=hrel
  have Hsn:=Lib.hid (sectorsB_snoc zs k)
  by_cases hlt:k < n
  ·have i0:(0:Int) ≤ (k:Int):=by omega
   have i1:(k:Int) < (n:Int):=by omega
   generalize sectorsB zs k=rk at hrows Hsn
   by_cases hz2:k < zs.length
   ·have e1:secZ zs k=zs.getD k 0:=if_pos hz2
    rw [e1] at Hsn
    obtain ⟨b,off,rfl,hbb,hc⟩:=hr.2.2 (by omega)
    have h1:=hc k hz2
    rw [← hbr.cell (p:=⟨b,off + k,none⟩) hbb] at h1
    have hbd:=hr.bd k
    have i2:(k:Int) < (zs.length:Int):=by omega
    generalize zs.getD k 0=x at h1 hbd Hsn
    clear hc e1
    go_wp2_with fail
    (with_reducible refine (sector_any x _ hbd).mono ?_);rintro e w1 ⟨g1,rfl,ho1,hb1⟩
    have hs0:=hbr.size
    have hrows1:=hrows.below hb1
    have hown1:=hown.kept (grown_none hb1) (Classical.em _)
    have hbw1:=hbr.trans (hb1.mono hs0)
    have hs1:=hbw1.size
    have hob:=Lib.hid (fun hp=>ho1.addr_ob hp)
    have hl1:(sectorB x).length=32:=sectorB_len _
    go_wp2_with (at_builtin;refine wpList_append_V rfl _ _ _ rfl w.heap.size 48 (.slice none 0 0) 24 Tryz.underlying33 info_row2 rfl _ k vs rfl (hown1.kept (grown_none (below1 w1 _)) (Classical.em _)) (w1.heap.size + 1) (some ⟨w1.heap.size,0,none⟩) 1 1 [.slice (some ⟨g1,0,none⟩) 32 32] rfl rfl (fun _=>⟨w1.heap.size,0,rfl,by omega,fun j hj=>by obtain rfl:j=0:=(by simp at hj;omega);exact cell_of_row _ _ _ _ _ _ (hp_new _ _ _ rfl)⟩) (fun u hu=>by simp at hu;subst hu;rfl) (by unfold maxLen;omega) (by omega) (by have:=hbw1.size;simp;omega) ?_;intro v2 w2 hown2 hg2 hat2)
    have hX0:=(hrows1.below (below1 w1 (.cells #[.slice (some ⟨g1,0,none⟩) 32 32] 48))).snoc (c:=32) ((ho1.le hs0).below (below1 w1 _)).rdbf (fun hp a ha e=>by
     injection ha with ha
     subst ha
     have h3:=(hown.lt _ e.symm).2
     have h4:=(ho1.lt g1 rfl).1
     simp at h3
     omega)
    rw [hl1] at hX0
    have hX:=hX0.grown hg2 hat2
    have hbw2:=(hbw1.alloc hbw1.size (.cells #[.slice (some ⟨g1,0,none⟩) 32 32] 48)).grown hg2 (by have:=hbw1.size;simp;omega) (fun j hj=>(hown.lt j hj).1)
    rw [← Hsn.out] at hX
    clear hX0
    clear hrows1 hown1 hbw1 hg2 ho1 hb1 hbr hown hrows hl1
    go_wp2
    go_roundw
    case rel=>exact ⟨k + 1,_,by omega,by go_num,hown2,hX,hbw2⟩
    case measure=>simp [intOf];omega
   ·have e1:secZ zs k=3 * (k:Int):=if_neg hz2
    rw [e1] at Hsn
    have hbd:-9223372036854775808 ≤ 3 * (k:Int)∧3 * (k:Int) ≤ 9223372036854775807:=by omega
    have i2:¬ (k:Int) < (zs.length:Int):=by omega
    clear e1
    go_wp2_with fail
    (with_reducible refine (sector_any (3 * (k:Int)) _ hbd).mono ?_);rintro e w1 ⟨g1,rfl,ho1,hb1⟩
    have hs0:=hbr.size
    have hrows1:=hrows.below hb1
    have hown1:=hown.kept (grown_none hb1) (Classical.em _)
    have hbw1:=hbr.trans (hb1.mono hs0)
    have hs1:=hbw1.size
    have hob:=Lib.hid (fun hp=>ho1.addr_ob hp)
    have hl1:(sectorB (3 * (k:Int))).length=32:=sectorB_len _
    go_wp2_with (at_builtin;refine wpList_append_V rfl _ _ _ rfl w.heap.size 48 (.slice none 0 0) 24 Tryz.underlying33 info_row2 rfl _ k vs rfl (hown1.kept (grown_none (below1 w1 _)) (Classical.em _)) (w1.heap.size + 1) (some ⟨w1.heap.size,0,none⟩) 1 1 [.slice (some ⟨g1,0,none⟩) 32 32] rfl rfl (fun _=>⟨w1.heap.size,0,rfl,by omega,fun j hj=>by obtain rfl:j=0:=(by simp at hj;omega);exact cell_of_row _ _ _ _ _ _ (hp_new _ _ _ rfl)⟩) (fun u hu=>by simp at hu;subst hu;rfl) (by unfold maxLen;omega) (by omega) (by have:=hbw1.size;simp;omega) ?_;intro v2 w2 hown2 hg2 hat2)
    have hX0:=(hrows1.below (below1 w1 (.cells #[.slice (some ⟨g1,0,none⟩) 32 32] 48))).snoc (c:=32) ((ho1.le hs0).below (below1 w1 _)).rdbf (fun hp a ha e=>by
     injection ha with ha
     subst ha
     have h3:=(hown.lt _ e.symm).2
     have h4:=(ho1.lt g1 rfl).1
     simp at h3
     omega)
    rw [hl1] at hX0
    have hX:=hX0.grown hg2 hat2
    have hbw2:=(hbw1.alloc hbw1.size (.cells #[.slice (some ⟨g1,0,none⟩) 32 32] 48)).grown hg2 (by have:=hbw1.size;simp;omega) (fun j hj=>(hown.lt j hj).1)
    rw [← Hsn.out] at hX
    clear hX0
    clear hrows1 hown1 hbw1 hg2 ho1 hb1 hbr hown hrows hl1
    go_wp2
    go_roundw
    case rel=>exact ⟨k + 1,_,by omega,by go_num,hown2,hX,hbw2⟩
    case measure=>simp [intOf];omega
  ·obtain rfl:k=n:=by omega
   have i1:¬ (k:Int) < (k:Int):=by omega
   go_wp2
   go_ret
   exact ⟨_,rfl,⟨vs,by rw [sectorsB_len];exact hown,hrows⟩,hbr⟩
end Go.Proofs.YtldfoadildaljaaGreat
end
section
set_option maxRecDepth 20000
set_option linter.unusedVariables false
set_option linter.unusedSimpArgs false
namespace Go.Proofs.YtldfoadildaljaaGreat
open Go.RowKit
theorem RdZ.drop {w:World} {B:Nat} {A:Option Addr} {zs:List Int} (h:RdZ w B A zs) (k cap:Nat) (hc:zs.length ≤ cap):RdZ w B (if cap=k then A else A.map (·.add k)) (zs.drop k) :=
 ⟨by have:=h.1;simp;omega,fun z hz=>h.2.1 z (List.mem_of_mem_drop hz),fun hn=>by
  have hn':k < zs.length:=by simp at hn;omega
  obtain ⟨b,off,rfl,hb,hc⟩:=h.2.2 (by omega)
  rw [if_neg (by omega)]
  refine ⟨b,off + k,?_,hb,fun j hj=>?_⟩
  ·unfold Addr.add;by_cases hk0:k=0 <;> simp [hk0]
  ·have hj':k + j < zs.length:=by simp at hj;omega
   rw [Nat.add_assoc,hc (k + j) hj']
   simp⟩
end Go.Proofs.YtldfoadildaljaaGreat
end
section
set_option maxRecDepth 8000
set_option linter.unusedVariables false
set_option linter.unusedSimpArgs false
namespace Go.Proofs.YtldfoadildaljaaGreat
open Go.RowKit
section
variable {lo:Nat} {W W':World} {g:Nat} {bk:Nat→Nat} {rs:List (List UInt8)}
end
end Go.Proofs.YtldfoadildaljaaGreat
end
section
set_option maxRecDepth 8000
set_option linter.unusedVariables false
set_option linter.unusedSimpArgs false
namespace Go.Proofs.YtldfoadildaljaaGreat
open Go.RowKit
section
variable {w V V':World} {s:Int} {A:Option Addr} {n c g:Nat} {bk:Nat→Nat} {rs:List (List UInt8)}
end
end Go.Proofs.YtldfoadildaljaaGreat
end
section
set_option linter.unusedVariables false
set_option linter.unusedSimpArgs false
namespace Go.Proofs.YtldfoadildaljaaGreat
open Go.RowKit
end Go.Proofs.YtldfoadildaljaaGreat
end
section
set_option linter.unusedVariables false
set_option linter.unusedSimpArgs false
namespace Go.Proofs.YtldfoadildaljaaGreat
open Go.RowKit
end Go.Proofs.YtldfoadildaljaaGreat
end
