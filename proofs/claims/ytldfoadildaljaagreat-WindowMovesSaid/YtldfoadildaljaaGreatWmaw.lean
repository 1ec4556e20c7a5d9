/- Texts put together: BchPend, BchPart, BchCrash. -/
import Derived.Test.YtldfoadildaljaaGreatWmau
import Derived.Test.YtldfoadildaljaaGreatWmaa
import Derived.Test.YtldfoadildaljaaGreatWmag
import Derived.Test.YtldfoadildaljaaGreatWmak
section
namespace Go.Proofs.YtldfoadildaljaaGreat
open Go.RowKit
theorem offs_succ (D:Nat→Dsk) (i:Nat):offs D (i + 1)=offs D i + (D i).ps.length:=rfl
set_option maxHeartbeats 400000 in
theorem bch_pending_eq (B b:Nat) (H:BH) (N:Bch) (w:World) (h:BAt w B b H N) (hps:∀ i,i < N.n→(N.D i).ps.length ≤ 2000000) :
    Calls Tryz.prog 22 #[ptr b] w fun e w'=>e=.returned (.int .i64 (N.pend:Int))∧w'=w:=by
 have Hh:=Lib.hid h
 have hc:=h.cell 3 _ rfl
 have Hp:=Lib.hid hps
 have hn:=h.ok.n
 have HP:Hid (N.pend=offs N.D N.n):=rfl
 clear h hps
 unfold ptr
 go_enter Tryz.func22,Tryz.ntmps22
 go_wp2
 go_loopw [3,11] (fun s i wr=>∃ k:Nat,k ≤ N.n∧i=.int .i64 k∧s=.int .i64 (offs N.D k:Int)∧wr=w) (fun _ i _=>N.n - (intOf i).toNat)
 case atStart=>exact ⟨0,Nat.zero_le _,rfl,rfl,rfl⟩
 case round =>
  obtain ⟨k,hk,rfl,rfl,rfl⟩:=hrel
  by_cases hlt:k < N.n
  ·have i0:(0:Int) ≤ (k:Int):=by omega
   have i1:(k:Int) < (N.n:Int):=by omega
   have hr:=Hh.out
   have hp:wr.cell? ⟨H.g,k,none⟩=some (.pointer (some ⟨H.bk k,0,none⟩)):=hr.pcell hlt
   have CD:=Lib.hid (dsk_pending_any _ _ _ _ wr (hr.dsk k hlt))
   have h1:=offs_pend N.D k fun i hi=>Hp.out i (by omega)
   have h2:=Hp.out k hlt
   have n1:IntKind.i64.wrap ((offs N.D k:Int) + ((N.D k).ps.length:Int))=(offs N.D k:Int) + ((N.D k).ps.length:Int):=by rw [IntKind.wrap_i64];omega
   have HS:=Lib.hid (show (offs N.D k:Int) + ((N.D k).ps.length:Int)=(offs N.D (k + 1):Int) by rw [offs_succ];omega)
   clear hr
   generalize (N.D k).ps.length=p at CD n1 HS h2
   generalize offs N.D k=o at n1 HS h1 ⊢
   go_wp2_with fail
   refine CD.out.mono ?_
   rintro e w2 ⟨rfl,rfl⟩
   go_wp2
   go_roundw
   case rel=>exact ⟨k + 1,by omega,by go_num,by rw [HS.out],by first | rfl | trivial⟩
   case measure=>simp [intOf];omega
  ·obtain rfl:k=N.n:=by omega
   go_wp2
   go_ret
   exact ⟨by rw [HP.out];rfl,by first | rfl | trivial⟩
end Go.Proofs.YtldfoadildaljaaGreat
end
section
namespace Go.Proofs.YtldfoadildaljaaGreat
open Go.RowKit
def rowk (n k:Nat) (bk:Nat→Nat):List Value:=(List.range n).map fun i=>if i < k then ptr (bk i) else .pointer none
theorem rowk_len (n k:Nat) (bk:Nat→Nat):(rowk n k bk).length=n:=by unfold rowk;simp
theorem rowk_get {n i:Nat} (k:Nat) (bk:Nat→Nat) (h:i < n):(rowk n k bk)[i]?=some (if i < k then ptr (bk i) else .pointer none):=by unfold rowk;simp [h]
theorem rowk_all (n:Nat) (bk:Nat→Nat):rowk n n bk=prow n bk:=List.map_congr_left fun i hi=>by rw [if_pos (List.mem_range.1 hi)]
theorem rowk_set {n k:Nat} (bk:Nat→Nat) (b:Nat) (h:k < n):spl (rowk n k bk) k [ptr b]=rowk n (k + 1) (upd bk k b):=by
 apply List.ext_getElem?
 intro j
 have hl:((rowk n k bk).take k).length=k:=by rw [List.length_take,rowk_len];omega
 unfold spl
 rw [List.append_assoc]
 by_cases hj:j < k
 ·rw [List.getElem?_append_left (by omega),List.getElem?_take,if_pos hj,rowk_get _ _ (by omega),rowk_get _ _ (by omega),upd_other _ _ (by omega),if_pos hj,if_pos (by omega)]
 ·rw [List.getElem?_append_right (by omega),hl]
  by_cases e:j=k
  ·subst e;rw [Nat.sub_self,rowk_get _ _ h,upd_same,if_pos (by omega)];rfl
  ·obtain ⟨m,hm⟩:∃ m,j - k=m + 1:=⟨j - k - 1,by omega⟩
   rw [hm,List.cons_append,List.getElem?_cons_succ,List.nil_append,List.getElem?_drop]
   rw [show k + [ptr b].length + m=j by simp;omega]
   by_cases hjn:j < n
   ·rw [rowk_get _ _ hjn,rowk_get _ _ hjn,if_neg (by omega),if_neg (by omega)]
   ·rw [List.getElem?_eq_none (by rw [rowk_len];omega),List.getElem?_eq_none (by rw [rowk_len];omega)]
structure PAt (w:World) (B b:Nat) (H:BH) (N:Bch) (k:Nat):Prop where
 blk:w.heap[b]?=some (.cells (bcells H.g N.n N.done N.left N.down).toArray 43 (0,0))
 row:w.heap[H.g]?=some (.cells (rowk N.n k H.bk).toArray 76 (0,0))
 dsk:∀ i,i < k→DskAt w B (H.bk i) (H.pv i) (N.D i)
 le:B ≤ b∧B ≤ H.g
 ne:b ≠ H.g
 off:∀ i,i < k→∀ j,DF (H.bk i) (H.pv i) j→j ≠ b∧j ≠ H.g
 ap:∀ i j,i < k→j < k→i ≠ j→Apart (H.bk i) (H.pv i) (H.bk j) (H.pv j)
theorem PAt.full {w:World} {B b:Nat} {H:BH} {N:Bch} (h:PAt w B b H N N.n) (hok:N.Ok):BAt w B b H N :=
 ⟨h.blk,by rw [← rowk_all];exact h.row,h.dsk,h.le,h.ne,h.off,h.ap,hok⟩
section
variable {w:World} {B b:Nat} {H:BH} {N:Bch} {k:Nat}
theorem PAt.lt (h:PAt w B b H N k):b < w.heap.size∧H.g < w.heap.size:=⟨(Array.getElem?_eq_some_iff.1 h.blk).1,(Array.getElem?_eq_some_iff.1 h.row).1⟩
theorem PAt.below {w1:World} (h:PAt w B b H N k) (hb:Below w.heap.size w w1):PAt w1 B b H N k :=
 ⟨(hb.block b h.lt.1).trans h.blk,(hb.block H.g h.lt.2).trans h.row,fun i hi=>(h.dsk i hi).below hb,h.le,h.ne,h.off,h.ap⟩
theorem PAt.next {w1 w2:World} {b':Nat} {pv':Value} (h:PAt w B b H N k) (hkn:k < N.n) (hB:B ≤ w.heap.size) (hb:Below w.heap.size w w1) (hd:DskAt w1 w.heap.size b' pv' (N.D k)) (hr:w2.heap[H.g]?=some (.cells (spl (rowk N.n k H.bk) k [ptr b']).toArray 76 (0,0))) (hc:Chg (fun j=>j=H.g) w1 w2) :
    PAt w2 B b { H with bk:=upd H.bk k b',pv:=upd H.pv k pv' } N (k + 1):=by
 have h1:=h.below hb
 have hnew:∀ j,DF b' pv' j→w.heap.size ≤ j:=fun j hj=>DF.le hd hj
 have hl:=h.lt
 have hup:∀ i,i < k + 1→i ≠ k→i < k:=fun i a b=>by omega
 refine ⟨?_,?_,?_,h.le,h.ne,?_,?_⟩
 ·exact (hc.block b h1.lt.1 h.ne).trans h1.blk
 ·show w2.heap[H.g]?=_
  rw [hr,rowk_set _ _ hkn]
 ·intro i hi
  show DskAt w2 B (upd H.bk k b' i) (upd H.pv k pv' i) (N.D i)
  by_cases e:i=k
  ·subst e
   rw [upd_same,upd_same]
   exact (hd.mono hB).chg hc (fun e=>by have:=hnew b' (.inl rfl);omega) fun j hj e=>by have:=hnew j (.inr hj);omega
  ·rw [upd_other _ _ e,upd_other _ _ e]
   exact (h1.dsk i (hup i hi e)).chg hc (fun e2=>(h.off i (hup i hi e) _ (.inl rfl)).2 e2) fun j hj e2=>(h.off i (hup i hi e) j (.inr hj)).2 e2
 ·intro i hi j
  show DF (upd H.bk k b' i) (upd H.pv k pv' i) j→_∧j ≠ H.g
  by_cases e:i=k
  ·subst e
   rw [upd_same,upd_same]
   intro hj
   have:=hnew j hj
   omega
  ·rw [upd_other _ _ e,upd_other _ _ e];exact h.off i (hup i hi e) j
 ·intro i j hi hj hij
  show Apart (upd H.bk k b' i) (upd H.pv k pv' i) (upd H.bk k b' j) (upd H.pv k pv' j)
  by_cases e:i=k
  ·subst e
   rw [upd_same,upd_same,upd_other _ _ (fun e=>hij e.symm),upd_other _ _ (fun e=>hij e.symm)]
   intro m h2 h3
   have:=hnew m h2
   have:=((h.dsk j (hup j hj (fun e=>hij e.symm))).flt h3).2
   omega
  ·rw [upd_other _ _ e,upd_other _ _ e]
   by_cases e2:j=k
   ·subst e2
    rw [upd_same,upd_same]
    intro m h2 h3
    have:=hnew m h3
    have:=((h.dsk i (hup i hi e)).flt h2).2
    omega
   ·rw [upd_other _ _ e2,upd_other _ _ e2]
    exact h.ap i j (hup i hi e) (hup j hj e2) hij
end
theorem info_pdisk:(Tryz.prog.info? 76).map (fun i=>(i.zero,i.size,i.bytes))=some (some (.pointer none),1,8):=by kernel_rfl
theorem rowk_zero (n:Nat) (bk:Nat→Nat):madeCells #[.pointer none] n=(rowk n 0 bk).toArray:=by
 apply Array.toList_inj.1
 apply List.ext_getElem?
 intro j
 rw [toList_madeCells_one,List.getElem?_replicate]
 by_cases h:j < n
 ·rw [if_pos h]
  show _=(rowk n 0 bk)[j]?
  rw [rowk_get _ _ h,if_neg (by omega)]
 ·rw [if_neg h]
  show _=(rowk n 0 bk)[j]?
  rw [List.getElem?_eq_none (by rw [rowk_len];omega)]
theorem make_pdisks (n:Nat) (hn:n ≤ 1000000) (bk:Nat→Nat) (w:World) :
    (Instr.makeSlice 41 (.int .i64 (n:Int)) (.int .i64 (n:Int))).run Tryz.prog w=.ok (.slice (some ⟨w.heap.size,0,none⟩) n n) (w.alloc (.cells (rowk n 0 bk).toArray 76)):=by
 rw [← rowk_zero n bk]
 exact run_make_row' _ _ _ 8 Tryz.underlying41 info_pdisk rfl _ _ n (by omega) (by omega) w
end Go.Proofs.YtldfoadildaljaaGreat
end
section
set_option maxRecDepth 20000
namespace Go.Proofs.YtldfoadildaljaaGreat
open Go.RowKit
end Go.Proofs.YtldfoadildaljaaGreat
end
