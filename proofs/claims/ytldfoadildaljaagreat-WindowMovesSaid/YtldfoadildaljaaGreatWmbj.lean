/- Texts put together: WinMath, WinOne, WinSpec, WinRow. -/
import Derived.Test.YtldfoadildaljaaGreatWmbb
import Derived.Test.YtldfoadildaljaaGreatWmbh
import Derived.Test.YtldfoadildaljaaGreatWmbi
import Derived.Test.YtldfoadildaljaaGreatWmaj
import Derived.Test.YtldfoadildaljaaGreatWmbd
import Derived.Test.YtldfoadildaljaaGreatWmah
import Derived.Test.YtldfoadildaljaaGreatWmaz
section
set_option linter.unusedVariables false
set_option linter.unusedSimpArgs false
namespace Go.Proofs.YtldfoadildaljaaGreat
def wrdTo (N:Bch) (lv:List Bool) (l d c fr:Int):Nat→Int × List (List UInt8)
 | 0=>(0,[])
 | j + 1=>if (wrdTo N lv l d c fr j).1 ≠ 0 then wrdTo N lv l d c fr j else if gCap l d c ≤ fr + (j:Int) then (0,(wrdTo N lv l d c fr j).2 ++ [zeroL 32]) else
     if soneE N lv l d c (fr + (j:Int)) ≠ 0 then (soneE N lv l d c (fr + (j:Int)),[]) else (0,(wrdTo N lv l d c fr j).2 ++ [soneB N lv l d c (fr + (j:Int))])
def wrdS (N:Bch) (lv:List Bool) (l d c l' d' c' k:Int):Int × List (List UInt8) :=
 if pnSok l d c l' d' c' k=true then wrdTo N lv l d c (pnF l d c l' d' c' k) (pnN l d c l' d' c').toNat else (1,[])
def wrow (l' d' c' r fr:Int) (ds:List (List UInt8)):List (List UInt8):=(plNums l' d' c' r).map fun n=>ds.getD (n - fr).toNat []
def wwrTo (N:Bch) (lv:List Bool) (l' d' c' r0 fr:Int) (ds:List (List UInt8)):Nat→Int × Bch
 | 0=>(0,N)
 | j + 1=>if (wwrTo N lv l' d' c' r0 fr ds j).1 ≠ 0 then wwrTo N lv l' d' c' r0 fr ds j else swrS (wwrTo N lv l' d' c' r0 fr ds j).2 lv l' d' c' (r0 + (j:Int)) (wrow l' d' c' (r0 + (j:Int)) fr ds)
def all32:List (List UInt8)→Bool
 | []=>true
 | x::xs=>x.length == 32 && all32 xs
theorem all32_iff:∀ {ds:List (List UInt8)},all32 ds=true ↔ ∀ x ∈ ds,x.length=32
 | []=>by simp [all32]
 | x::xs=>by simp [all32,all32_iff (ds:=xs)]
def wwrB (l d c l' d' c' k:Int) (ds:List (List UInt8)):Bool:=!pnSok l d c l' d' c' k || decide ((ds.length:Int) ≠ pnN l d c l' d' c') || !all32 ds
def wwrS (N:Bch) (lv:List Bool) (l d c l' d' c' k:Int) (ds:List (List UInt8)):Int × Bch :=
 if wwrB l d c l' d' c' k ds=true then (1,N) else if (wwrTo N lv l' d' c' (k * pnR l d c l' d' c') (pnF l d c l' d' c' k) ds (pnR l d c l' d' c').toNat).1 ≠ 0 then wwrTo N lv l' d' c' (k * pnR l d c l' d' c') (pnF l d c l' d' c' k) ds (pnR l d c l' d' c').toNat
 else sflS (wwrTo N lv l' d' c' (k * pnR l d c l' d' c') (pnF l d c l' d' c' k) ds (pnR l d c l' d' c').toNat).2 lv
theorem wrdS_bad {N:Bch} {lv:List Bool} {l d c l' d' c' k:Int} (h:pnSok l d c l' d' c' k=false):wrdS N lv l d c l' d' c' k=(1,[]):=if_neg (by rw [h];decide)
theorem wwrS_bad {N:Bch} {lv:List Bool} {l d c l' d' c' k:Int} {ds:List (List UInt8)} (h:wwrB l d c l' d' c' k ds=true):wwrS N lv l d c l' d' c' k ds=(1,N):=if_pos h
section
variable {N:Bch} {lv:List Bool} {l d c fr:Int}
theorem wrdTo_stop {j:Nat} (h:(wrdTo N lv l d c fr j).1 ≠ 0):∀ m,j ≤ m→wrdTo N lv l d c fr m=wrdTo N lv l d c fr j
 | 0,hm=>by obtain rfl:j=0:=by omega
            rfl
 | m + 1,hm=>by
   by_cases e:j=m + 1
   ·rw [e]
   ·have ih:=wrdTo_stop h m (by omega)
    rw [wrdTo,if_pos (by rw [ih];exact h),ih]
theorem wrdTo_zero {j:Nat} (h:(wrdTo N lv l d c fr j).1=0) (hc:gCap l d c ≤ fr + (j:Int)):wrdTo N lv l d c fr (j + 1)=(0,(wrdTo N lv l d c fr j).2 ++ [zeroL 32]):=by rw [wrdTo,if_neg (by simp [h]),if_pos hc]
theorem wrdTo_err {j:Nat} (h:(wrdTo N lv l d c fr j).1=0) (hc:¬ gCap l d c ≤ fr + (j:Int)) (he:soneE N lv l d c (fr + (j:Int)) ≠ 0):wrdTo N lv l d c fr (j + 1)=(soneE N lv l d c (fr + (j:Int)),[]):=by rw [wrdTo,if_neg (by simp [h]),if_neg hc,if_pos he]
theorem wrdTo_goes {j:Nat} (h:(wrdTo N lv l d c fr j).1=0) (hc:¬ gCap l d c ≤ fr + (j:Int)) (he:soneE N lv l d c (fr + (j:Int))=0):wrdTo N lv l d c fr (j + 1)=(0,(wrdTo N lv l d c fr j).2 ++ [soneB N lv l d c (fr + (j:Int))]):=by rw [wrdTo,if_neg (by simp [h]),if_neg hc,if_neg (by simp [he])]
theorem wrdTo_len:∀ j,(wrdTo N lv l d c fr j).1=0→(wrdTo N lv l d c fr j).2.length=j
 | 0,_=>rfl
 | j + 1,h=>by
   by_cases h0:(wrdTo N lv l d c fr j).1=0
   ·have ih:=wrdTo_len j h0
    by_cases hc:gCap l d c ≤ fr + (j:Int)
    ·rw [wrdTo_zero h0 hc];simp [ih]
    ·by_cases he:soneE N lv l d c (fr + (j:Int))=0
     ·rw [wrdTo_goes h0 hc he];simp [ih]
     ·rw [wrdTo_err h0 hc he] at h;exact absurd h he
   ·rw [wrdTo_stop h0 (j + 1) (by omega)] at h;exact absurd h h0
def upTo (cap:Int) (val:Int→List UInt8) (n:Int):List UInt8:=if n < cap then val n else zeroL 32
def wlist (cap:Int) (val:Int→List UInt8) (fr:Int) (m:Nat):List (List UInt8):=(List.range m).map fun j:Nat=>upTo cap val (fr + (j:Int))
theorem wlist_len (cap:Int) (val:Int→List UInt8) (fr:Int) (m:Nat):(wlist cap val fr m).length=m:=by simp [wlist]
theorem wlist_snoc (cap:Int) (val:Int→List UInt8) (fr:Int) (m:Nat):wlist cap val fr (m + 1)=wlist cap val fr m ++ [upTo cap val (fr + (m:Int))]:=by simp [wlist,List.range_succ]
theorem wlist_get {cap:Int} {val:Int→List UInt8} {fr:Int} {m j:Nat} (h:j < m):(wlist cap val fr m).getD j []=upTo cap val (fr + (j:Int)):=by simp [wlist,h]
theorem wrd_or {val:Int→List UInt8}:∀ m:Nat,(∀ j:Nat,j < m→fr + (j:Int) < gCap l d c→(soneE N lv l d c (fr + (j:Int))=0∧soneB N lv l d c (fr + (j:Int))=val (fr + (j:Int)))∨soneE N lv l d c (fr + (j:Int))=7) →
    wrdTo N lv l d c fr m=(0,wlist (gCap l d c) val fr m)∨(wrdTo N lv l d c fr m=(7,[])∧fr < gCap l d c)
 | 0,_=>.inl rfl
 | m + 1,h=>by
   rcases wrd_or m (fun j hj=>h j (by omega)) with ih | ⟨ih,hf⟩
   ·have h0:(wrdTo N lv l d c fr m).1=0:=by rw [ih]
    by_cases hc:gCap l d c ≤ fr + (m:Int)
    ·left
     rw [wrdTo_zero h0 hc,ih,wlist_snoc]
     unfold upTo
     rw [if_neg (by omega)]
    ·rcases h m (by omega) (by omega) with ⟨h1,h2⟩ | h1
     ·left
      rw [wrdTo_goes h0 hc h1,ih,wlist_snoc,h2]
      unfold upTo
      rw [if_pos (by omega)]
     ·right
      rw [wrdTo_err h0 hc (by rw [h1];decide),h1]
      exact ⟨rfl,by omega⟩
   ·right
    rw [wrdTo_stop (by rw [ih];exact (by decide:(7:Int) ≠ 0)) (m + 1) (by omega)]
    exact ⟨ih,hf⟩
theorem wrd_ok {val:Int→List UInt8} (m:Nat) (h:∀ j:Nat,j < m→fr + (j:Int) < gCap l d c→soneE N lv l d c (fr + (j:Int))=0∧soneB N lv l d c (fr + (j:Int))=val (fr + (j:Int))):wrdTo N lv l d c fr m=(0,wlist (gCap l d c) val fr m):=by
 induction m with
 | zero=>rfl
 | succ m ih =>
   have ih:=ih fun j hj=>h j (by omega)
   have h0:(wrdTo N lv l d c fr m).1=0:=by rw [ih]
   by_cases hc:gCap l d c ≤ fr + (m:Int)
   ·rw [wrdTo_zero h0 hc,ih,wlist_snoc]
    unfold upTo
    rw [if_neg (by omega)]
   ·obtain ⟨h1,h2⟩:=h m (by omega) (by omega)
    rw [wrdTo_goes h0 hc h1,ih,wlist_snoc,h2]
    unfold upTo
    rw [if_pos (by omega)]
end
section
variable {N:Bch} {lv:List Bool} {l' d' c' r0 fr:Int} {ds:List (List UInt8)}
theorem wwrTo_stop {j:Nat} (h:(wwrTo N lv l' d' c' r0 fr ds j).1 ≠ 0):∀ m,j ≤ m→wwrTo N lv l' d' c' r0 fr ds m=wwrTo N lv l' d' c' r0 fr ds j
 | 0,hm=>by obtain rfl:j=0:=by omega
            rfl
 | m + 1,hm=>by
   by_cases e:j=m + 1
   ·rw [e]
   ·have ih:=wwrTo_stop h m (by omega)
    rw [wwrTo,if_pos (by rw [ih];exact h),ih]
theorem wwrTo_goes {j:Nat} (h:(wwrTo N lv l' d' c' r0 fr ds j).1=0):wwrTo N lv l' d' c' r0 fr ds (j + 1)=swrS (wwrTo N lv l' d' c' r0 fr ds j).2 lv l' d' c' (r0 + (j:Int)) (wrow l' d' c' (r0 + (j:Int)) fr ds):=by rw [wwrTo,if_neg (by simp [h])]
theorem swrS_n' (N:Bch) (lv:List Bool) (l d c r:Int) (rs:List (List UInt8)):(swrS N lv l d c r rs).2.n=N.n:=by
 unfold swrS;split
 ·rfl
 ·exact swTo_n _
theorem wwrTo_n:∀ j,(wwrTo N lv l' d' c' r0 fr ds j).2.n=N.n
 | 0=>rfl
 | j + 1=>by
   have ih:=wwrTo_n j
   rw [wwrTo];split
   ·exact ih
   ·exact (swrS_n' _ _ _ _ _ _ _).trans ih
structure Ww (N M:Bch) (lv:List Bool) (D r0 j:Nat) (wr:Nat→List (List UInt8)):Prop where
 n:M.n=N.n
 dn:M.down=false
 lf:M.left=-1
 f:∀ i,(M.D i).f=(N.D i).f
 idle:∀ i,srvD N lv i=false→M.D i=N.D i
 ok:∀ i,(N.D i).Ok→(M.D i).Ok
 sec:∀ i,(N.D i).Ok→∀ k,k < 52→secAt (M.D i).now k=if 36 + r0 ≤ k∧k < 36 + r0 + j∧i < D∧srvD N lv i=true then (wr (k - 36)).getD i [] else secAt (N.D i).now k
theorem Ww.srv {N M:Bch} {D r0 j:Nat} {wr:Nat→List (List UInt8)} (h:Ww N M lv D r0 j wr) (i:Nat):srvD M lv i=srvD N lv i:=srvD_congr h.n (h.f i)
def wfl (l' d' c' fr:Int) (ds:List (List UInt8)) (t:Nat):List (List UInt8):=fillL (roD d') (roF l' d' c' (t:Int)) (wrow l' d' c' (t:Int) fr ds)
theorem ww_good {D r0:Nat} (hg:gOk l' (D:Int) c'=true) (R:Nat) (hR:r0 + R ≤ 16) (hw:∀ t:Nat,r0 ≤ t→t < r0 + R→(wrow l' (D:Int) c' (t:Int) fr ds).length=roW l' (D:Int)∧∀ x ∈ wrow l' (D:Int) c' (t:Int) fr ds,x.length=32) (hd:N.down=false) (hl:N.left=-1) :
    ∀ j,j ≤ R→(wwrTo N lv l' (D:Int) c' (r0:Int) fr ds j).1=0∧Ww N (wwrTo N lv l' (D:Int) c' (r0:Int) fr ds j).2 lv D r0 j (wfl l' (D:Int) c' fr ds)
 | 0,_=>⟨rfl,rfl,hd,hl,fun _=>rfl,fun _ _=>rfl,fun _ h=>h,fun i _ k _=>by rw [if_neg (by omega)];rfl⟩
 | j + 1,hj=>by
   obtain ⟨h0,w⟩:=ww_good hg R hR hw hd hl j (by omega)
   have gr:=gr_mk (l:=l') (c:=c') (r:=((r0 + j:Nat):Int)) hg (by omega) (by omega)
   obtain ⟨a1,a2⟩:=hw (r0 + j) (by omega) (by omega)
   obtain ⟨h1,g⟩:=swr_good (N:=(wwrTo N lv l' (D:Int) c' (r0:Int) fr ds j).2) (lv:=lv) gr a1 a2 w.dn w.lf
   rw [wwrTo_goes h0,show (r0:Int) + (j:Int)=((r0 + j:Nat):Int) by omega]
   refine ⟨h1,?_⟩
   have hx:∀ i,i < D→((wfl l' (D:Int) c' fr ds (r0 + j)).getD i []).length=32:=fun i hi=>by
    unfold wfl;rw [gr.eD];exact gr.fills a1 a2 hi
   have e36:36 + (((r0 + j:Nat):Int)).toNat=36 + r0 + j:=by omega
   have hfl:fillL D (roF l' (D:Int) c' ((r0 + j:Nat):Int)) (wrow l' (D:Int) c' ((r0 + j:Nat):Int) fr ds)=wfl l' (D:Int) c' fr ds (r0 + j):=by unfold wfl;rw [gr.eD]
   rw [e36,hfl] at g
   generalize (swrS (wwrTo N lv l' (D:Int) c' (r0:Int) fr ds j).2 lv l' (D:Int) c' ((r0 + j:Nat):Int) (wrow l' (D:Int) c' ((r0 + j:Nat):Int) fr ds)).2=M' at g ⊢
   refine ⟨g.n.trans w.n,g.dn,g.lf,fun i=>?_,fun i hs=>?_,fun i hk=>?_,fun i hk k hk2=>?_⟩
   ·rw [g.D i];split
    ·exact w.f i
    ·exact w.f i
   ·rw [g.D i,if_neg (by rw [w.srv i,hs];simp)];exact w.idle i hs
   ·rw [g.D i];split
    ·next hq=>exact (w.ok i hk).write (by omega) (hx i hq.1)
    ·exact w.ok i hk
   ·rw [g.D i,w.srv i]
    by_cases q:i < D∧srvD N lv i=true
    ·rw [if_pos q,Dsk.write_now]
     by_cases e:k=36 + r0 + j
     ·subst e
      rw [sec_put_same (w.ok i hk).now (by omega) (hx i q.1),if_pos ⟨by omega,by omega,q.1,q.2⟩,show 36 + r0 + j - 36=r0 + j by omega]
     ·rw [sec_put_other (w.ok i hk).now (by omega) (hx i q.1) e,w.sec i hk k hk2]
      by_cases q2:36 + r0 ≤ k∧k < 36 + r0 + j∧i < D∧srvD N lv i=true
      ·rw [if_pos q2,if_pos ⟨q2.1,by omega,q2.2.2⟩]
      ·rw [if_neg q2,if_neg (fun h=>q2 ⟨h.1,by omega,h.2.2⟩)]
    ·rw [if_neg q,w.sec i hk k hk2,if_neg (fun h=>q h.2.2),if_neg (fun h=>q h.2.2)]
end
structure Wg (N:Bch) (m:Nat):Prop where
 n:N.n=m
 dn:N.down=false
 lf:N.left=-1
 ok:∀ i,i < m→(N.D i).Ok
 ps:∀ i,i < m→(N.D i).ps=[]
theorem Gd.wg {N:Bch} {m:Nat} (h:Gd N m):Wg N m:=⟨h.n,h.dn,h.lf,h.ok,h.ps⟩
structure Wx (N M:Bch) (m:Nat) (lv:List Bool) (D r0 R:Nat) (wr:Nat→List (List UInt8)):Prop where
 wg:Wg M m
 f:∀ i,(M.D i).f=(N.D i).f
 sec:∀ i,i < m→∀ k,k < 52→secAt (M.D i).now k=if 36 + r0 ≤ k∧k < 36 + r0 + R∧i < D∧srvD N lv i=true then (wr (k - 36)).getD i [] else secAt (N.D i).now k
theorem Wx.srv {N M:Bch} {m D r0 R:Nat} {lv:List Bool} {wr:Nat→List (List UInt8)} (h:Wx N M m lv D r0 R wr) (hN:N.n=m) (i:Nat):srvD M lv i=srvD N lv i:=srvD_congr (h.wg.n.trans hN.symm) (h.f i)
theorem wx_of {N:Bch} {m D r0 R:Nat} {lv:List Bool} {wr:Nat→List (List UInt8)} {M:Bch} (h:Wg N m) (w:Ww N M lv D r0 R wr):(sflS M lv).1=0∧Wx N (sflS M lv).2 m lv D r0 R wr:=by
 obtain ⟨e,g⟩:=sfl_good (N:=M) (lv:=lv) w.dn
 refine ⟨e,⟨g.n.trans (w.n.trans h.n),g.dn,g.lf.trans w.lf,fun i hi=>?_,fun i hi=>?_⟩,fun i=>?_,fun i hi k hk=>?_⟩
 ·rw [g.D i]
  have:=w.ok i (h.ok i hi)
  unfold flD;split
  ·unfold Dsk.flushE;split
   ·exact this
   ·exact this.flush
  ·exact this
 ·rw [g.D i]
  have hp:=h.ps i hi
  unfold flD
  by_cases q:i < M.n∧lv.getD i false=true
  ·rw [if_pos q]
   unfold Dsk.flushE
   by_cases q2:(M.D i).f=true
   ·rw [if_pos q2,w.idle i (srvD_no (by rw [← w.f i,q2];simp))];exact hp
   ·rw [if_neg q2];rfl
  ·rw [if_neg q,w.idle i (srvD_no fun hh=>q ⟨by rw [w.n];exact hh.1,hh.2.1⟩)];exact hp
 ·rw [g.D i,flD_f];exact w.f i
 ·rw [g.D i,flD_now,w.sec i (h.ok i hi) k hk]
end Go.Proofs.YtldfoadildaljaaGreat
end
section
set_option maxRecDepth 20000
set_option linter.unusedVariables false
set_option linter.unusedSimpArgs false
namespace Go.Proofs.YtldfoadildaljaaGreat
open Go.RowKit
def woneE (N:Bch) (lv:List Bool) (l d c n:Int):Int:=if gCap l d c ≤ n then 0 else soneE N lv l d c n
def woneB (N:Bch) (lv:List Bool) (l d c n:Int):List UInt8:=if gCap l d c ≤ n then zeroL 32 else soneB N lv l d c n
theorem winZero (w:World) (lo:Nat) (h:lo ≤ w.heap.size):RdBF lo (w.alloc (.cells (zcells 32) 5)) (some ⟨w.heap.size,0,none⟩) (zeroL 32) :=
 (own_make 5 w 32 (by omega)).rdbf.le h
set_option maxHeartbeats 3200000 in
theorem winOne_any (B b:Nat) (H:BH) (N:Bch) (w:World) (h:BAt w B b H N) (lv:List Bool) (A:Option Addr) (m cp:Nat) (hm:m=lv.length) (hv:RdO w w.heap.size A lv) (l d c n:Int) (hl:(-9223372036854775808 ≤ l∧l ≤ 9223372036854775807)) (hd:(-9223372036854775808 ≤ d∧d ≤ 9223372036854775807)) (hc:(-9223372036854775808 ≤ c∧c ≤ 9223372036854775807)) (hn:(-9223372036854775808 ≤ n∧n ≤ 9223372036854775807)) :
    Calls Tryz.prog 32 #[.pointer (some ⟨b,0,none⟩),.slice A m cp,.agg #[.int .i64 l,.int .i64 d,.int .i64 c],.int .i64 n] w (StpO w (woneE N lv l d c n) (woneB N lv l d c n)):=by
 subst hm
 have G:=gat_new w l d c 25 (0,0)
 have hmk:∀ w,(Instr.makeSlice 48 (.int .i64 32) (.int .i64 32)).run Tryz.prog w=.ok (.slice (some ⟨w.heap.size,0,none⟩) 32 32) (w.alloc (.cells (zcells 32) 5)):=make_bytes 32 (by omega)
 have CC:=Lib.hid (fun W=>capacity_any l d c W hl hd hc)
 have CO:=Lib.hid (fun W (hb:Below w.heap.size w W)=>stpOne_any B b H N W (h.below hb) lv A lv.length cp rfl (hv.keep hb.size fun p hp=>hb.cell hp) l d c n hl hd hc hn)
 have hz:(w.alloc (.cells #[.int .i64 l,.int .i64 d,.int .i64 c] 25)).heap.size=w.heap.size + 1:=by simp
 clear h hv
 by_cases q:gCap l d c ≤ n
 ·have HE:=Lib.hid (show woneE N lv l d c n=0 from if_pos q)
  have HB:=Lib.hid (show woneB N lv l d c n=zeroL 32 from if_pos q)
  generalize woneE N lv l d c n=E at HE ⊢
  generalize woneB N lv l d c n=bs at HB ⊢
  generalize gCap l d c=cap at q CC
  go_enter Tryz.func32,Tryz.ntmps32
  go_wp2_with fail
  (with_reducible refine (CC.out _).mono ?_);rintro e w1 ⟨rfl,hb⟩
  have F:=(below1 w _).trans (hb.mono (by simp))
  clear hb CC CO
  go_wp2_with fail
  go_ret2
  exact ⟨some ⟨w1.heap.size,0,none⟩,32,by rw [HE.out,HB.out];rfl,by rw [HB.out];exact winZero w1 _ F.size,F.trans ((below1 w1 _).mono F.size)⟩
 ·have HE:=Lib.hid (show woneE N lv l d c n=soneE N lv l d c n from if_neg q)
  have HB:=Lib.hid (show woneB N lv l d c n=soneB N lv l d c n from if_neg q)
  generalize woneE N lv l d c n=E at HE ⊢
  generalize woneB N lv l d c n=bs at HB ⊢
  generalize soneE N lv l d c n=E' at HE CO
  generalize soneB N lv l d c n=bs' at HB CO
  generalize gCap l d c=cap at q CC
  go_enter Tryz.func32,Tryz.ntmps32
  go_wp2_with fail
  (with_reducible refine (CC.out _).mono ?_);rintro e w1 ⟨rfl,hb⟩
  have F:=(below1 w _).trans (hb.mono (by simp))
  obtain ⟨g1,g2,g3⟩:=G.below hb (by rw [hz];omega)
  have C1:=Lib.hid (CO.out w1 F)
  clear hb CC CO G
  go_wp2_with fail
  (with_reducible refine C1.out.mono ?_);rintro e w2 ⟨A1,c1,rfl,ho,hb2⟩
  have F2:=F.trans (hb2.mono F.size)
  have ho2:=ho.le F.size
  clear hb2 ho C1
  go_wp2_with fail
  go_ret2
  exact ⟨A1,c1,by rw [HE.out,HB.out];rfl,by rw [HB.out];exact ho2,F2⟩
end Go.Proofs.YtldfoadildaljaaGreat
end
section
set_option maxRecDepth 20000
set_option linter.unusedVariables false
set_option linter.unusedSimpArgs false
namespace Go.Proofs.YtldfoadildaljaaGreat
open Go.RowKit
def WinRd:Prop:=∀ (W w:World) (b:Nat) (H:BH) (N:Bch) (K:List (Nat × Obj)) (R:List (Option Addr × List (List UInt8))) (S:List (Option Addr × List UInt8)),KS W w b H N K R S →
 ∀ (lv:List Bool) (A:Option Addr) (n cp:Nat),n=lv.length→RdOX (BF b H N.n) w A lv→∀ l d c l' d' c' k:Int,(-9223372036854775808 ≤ l∧l ≤ 9223372036854775807)→(-9223372036854775808 ≤ d∧d ≤ 9223372036854775807)→(-9223372036854775808 ≤ c∧c ≤ 9223372036854775807)→(-9223372036854775808 ≤ l'∧l' ≤ 9223372036854775807)→(-9223372036854775808 ≤ d'∧d' ≤ 9223372036854775807)→(-9223372036854775808 ≤ c'∧c' ≤ 9223372036854775807)→(-9223372036854775808 ≤ k∧k ≤ 9223372036854775807) →
  Calls Tryz.prog 10 #[.pointer (some ⟨b,0,none⟩),.slice A n cp,.agg #[.int .i64 l,.int .i64 d,.int .i64 c],.agg #[.int .i64 l',.int .i64 d',.int .i64 c'],.int .i64 k] w fun e w'=>∃ A' c0,e=.returned (.tuple #[.slice A' (wrdS N lv l d c l' d' c' k).2.length c0,.int .i64 (wrdS N lv l d c l' d' c' k).1])∧KS W w' b H N K ((A',(wrdS N lv l d c l' d' c' k).2)::R) S
def WinWr:Prop:=∀ (W w:World) (b:Nat) (H:BH) (N:Bch) (K:List (Nat × Obj)) (R:List (Option Addr × List (List UInt8))) (S:List (Option Addr × List UInt8)),KS W w b H N K R S →
 ∀ (lv:List Bool) (A:Option Addr) (n cp:Nat),n=lv.length→RdOX (BF b H N.n) w A lv→∀ l d c l' d' c' k:Int,(-9223372036854775808 ≤ l∧l ≤ 9223372036854775807)→(-9223372036854775808 ≤ d∧d ≤ 9223372036854775807)→(-9223372036854775808 ≤ c∧c ≤ 9223372036854775807)→(-9223372036854775808 ≤ l'∧l' ≤ 9223372036854775807)→(-9223372036854775808 ≤ d'∧d' ≤ 9223372036854775807)→(-9223372036854775808 ≤ c'∧c' ≤ 9223372036854775807)→(-9223372036854775808 ≤ k∧k ≤ 9223372036854775807) →
  ∀ (A2:Option Addr) (ds:List (List UInt8)) (n2 c2:Nat),ds.length=n2→n2 ≤ 1000→RdRX (BF b H N.n) w A2 ds→(∀ i,i < N.n→(N.D i).ps.length ≤ 1999000)→N.done ≤ 1999000 →
  Calls Tryz.prog 11 #[.pointer (some ⟨b,0,none⟩),.slice A n cp,.agg #[.int .i64 l,.int .i64 d,.int .i64 c],.agg #[.int .i64 l',.int .i64 d',.int .i64 c'],.int .i64 k,.slice A2 n2 c2] w fun e w'=>e=.returned (.int .i64 (wwrS N lv l d c l' d' c' k ds).1)∧∃ H',KS W w' b H' (wwrS N lv l d c l' d' c' k ds).2 K R S
structure WinP:Prop where
 rd:WinRd
 wr:WinWr
end Go.Proofs.YtldfoadildaljaaGreat
end
section
set_option maxRecDepth 20000
set_option linter.unusedVariables false
set_option linter.unusedSimpArgs false
namespace Go.Proofs.YtldfoadildaljaaGreat
open Go.RowKit
def wnlB (b:List UInt8):Bool:=(b.length:Int) != 32
theorem wnUnlike_any (A:Option Addr) (n c:Nat) (V:World) (r:Bool) (hr:((n:Int) != 32)=r):Calls Tryz.prog 34 #[.slice A n c] V fun e V'=>e=.returned (.bool r)∧V'=V:=by
 subst hr
 go_enter Tryz.func34,Tryz.ntmps34
 go_wp2
 go_ret
 exact ⟨rfl,rfl⟩
theorem wrsTake {rs:List (List UInt8)} {i:Nat} (hi:i < rs.length):rs.take (i + 1)=rs.take i ++ [rs.getD i []]:=by
 rw [List.take_succ_eq_append_getElem hi];simp [hi]
theorem wnIdx_any (A:Option Addr) (n c:Nat) (rs:List (List UInt8)) (w:World) (hn:rs.length=n) (h:RdR w w.heap.size A rs) :
    Calls Tryz.prog 62 #[.slice A n c,.func (.func 34) #[] #[]] w fun e w'=>∃ r:Int,e=.returned (.int .i64 r)∧decide (0 ≤ r)=rs.any wnlB∧w'=w:=by
 subst hn
 have H:=Lib.hid h
 have hmx:=h.1
 clear h
 go_enter Tryz.func62,Tryz.ntmps62
 go_wp2
 go_loopw [8] (fun i wr=>∃ j:Nat,j ≤ rs.length∧i=.int .i64 j∧(rs.take j).any wnlB=false∧wr=w) (fun i _=>rs.length - (intOf i).toNat)
 case atStart=>exact ⟨0,Nat.zero_le _,rfl,by simp,rfl⟩
 case round =>
  obtain ⟨j,hj,rfl,hall,rfl⟩:=hrel
  have Hall:=Lib.hid hall
  clear hall
  by_cases hlt:j < rs.length
  ·obtain ⟨g,off,rfl,hg,hc⟩:=H.out.2 (by omega)
   obtain ⟨D',c',hrp,_⟩:=hc j hlt
   clear hc
   have Hts:=Lib.hid (wrsTake hlt)
   have Hm:=Lib.hid (show rs.getD j [] ∈ rs by simp [hlt])
   have CL:=Lib.hid (wnUnlike_any D' (rs.getD j []).length c' wr (wnlB (rs.getD j [])) rfl)
   generalize rs.getD j []=y at hrp Hts Hm CL
   have k0:(0:Int) ≤ (j:Int):=by omega
   have k1:(j:Int) < (rs.length:Int):=by omega
   generalize y.length=yl at hrp CL
   cases hpk:wnlB y with
   | true =>
     rw [hpk] at CL
     have Hpk:=Lib.hid hpk
     clear hpk
     go_wp2_with (go_at_call 34;refine CL.out.mono ?_;rintro e w1 ⟨rfl,rfl⟩)
     go_ret
     exact ⟨(j:Int),rfl,by rw [decide_eq_true (by omega)];exact (List.any_eq_true.2 ⟨y,Hm.out,Hpk.out⟩).symm,rfl⟩
   | false =>
     rw [hpk] at CL
     have Hpk:=Lib.hid hpk
     clear hpk
     go_wp2_with (go_at_call 34;refine CL.out.mono ?_;rintro e w1 ⟨rfl,rfl⟩)
     go_roundw
     case rel=>exact ⟨j + 1,by omega,by go_num,by rw [Hts.out,List.any_append,Hall.out];simpa using Hpk.out,trivial⟩
     case measure=>simp [intOf];omega
  ·obtain rfl:j=rs.length:=by omega
   go_wp2
   go_ret
   exact ⟨-1,rfl,by have:=Hall.out;rw [List.take_length] at this;rw [this];decide,rfl⟩
theorem wnAnyU_any (A:Option Addr) (n c:Nat) (rs:List (List UInt8)) (w:World) (hn:rs.length=n) (h:RdR w w.heap.size A rs) :
    Calls Tryz.prog 33 #[.slice A n c,.func (.func 34) #[] #[]] w fun e w'=>e=.returned (.bool (rs.any wnlB))∧w'=w:=by
 have C:=Lib.hid (wnIdx_any A n c rs w hn h)
 clear h hn
 go_enter Tryz.func33,Tryz.ntmps33
 go_wp2_with fail
 refine C.out.mono ?_
 rintro e w1 ⟨r,rfl,hr,rfl⟩
 have Hr:=Lib.hid hr
 clear hr
 go_wp2
 go_ret
 exact ⟨by rw [← Hr.out];rfl,rfl⟩
theorem any_wnl:∀ ds:List (List UInt8),ds.any wnlB=!all32 ds
 | []=>rfl
 | x::xs=>by
   have e:wnlB x=!(x.length == 32):=by
    unfold wnlB
    by_cases h:x.length=32
    ·rw [h];rfl
    ·have h1:(x.length == 32)=false:=by rw [beq_eq_false_iff_ne];exact h
     rw [h1]
     show ((x.length:Int) != 32)=true
     rw [bne_iff_ne];omega
   rw [List.any_cons,any_wnl xs,e]
   rw [show all32 (x::xs)=(x.length == 32 && all32 xs) from rfl,Bool.not_and]
theorem wrow_len (l d c r fr:Int) (ds:List (List UInt8)):(wrow l d c r fr ds).length=(plNums l d c r).length:=by unfold wrow;rw [List.length_map]
theorem wrow_snoc (zs:List Int) (fr:Int) (ds:List (List UInt8)) {j:Nat} (hj:j < zs.length):((zs.take (j + 1)).map fun n=>ds.getD (n - fr).toNat [])=((zs.take j).map fun n=>ds.getD (n - fr).toNat []) ++ [ds.getD (zs.getD j 0 - fr).toNat []]:=by
 rw [List.take_succ_eq_append_getElem hj,List.map_append]
 simp [hj]
set_option maxHeartbeats 3200000 in
theorem winRow_any (A:Option Addr) (ds:List (List UInt8)) (n cp:Nat) (l d c r fr:Int) (w:World) (hn:ds.length=n) (hnl:n ≤ 1000) (hrd:RdR w w.heap.size A ds) (hl:(-9223372036854775808 ≤ l∧l ≤ 9223372036854775807)) (hd:(-9223372036854775808 ≤ d∧d ≤ 9223372036854775807)) (hc:(-9223372036854775808 ≤ c∧c ≤ 9223372036854775807)) (hr:(-9223372036854775808 ≤ r∧r ≤ 9223372036854775807)) (hf:0 ≤ fr∧fr ≤ 1000) (hin:∀ z ∈ plNums l d c r,fr ≤ z∧z < fr + (n:Int)) :
    Calls Tryz.prog 37 #[.agg #[.int .i64 l,.int .i64 d,.int .i64 c],.int .i64 r,.int .i64 fr,.slice A n cp] w fun e w'=>∃ A' c',e=.returned (.slice A' (plNums l d c r).length c')∧RdR w' w'.heap.size A' (wrow l d c r fr ds)∧Below w.heap.size w w':=by
 have G:=gat_new w l d c 25 (0,0)
 have CN:=Lib.hid (fun W=>numbers_any l d c r W hl hd hc hr)
 have hz8:(plNums l d c r).length ≤ 1000:=by
  cases hT:plOk l d c r
  ·rw [plNums_no hT];simp
  ·rw [plNums_len hT];have:=gWid_bd l d c;omega
 have Hrow:Hid (wrow l d c r fr ds=(plNums l d c r).map fun n=>ds.getD (n - fr).toNat []):=rfl
 generalize wrow l d c r fr ds=out at Hrow ⊢
 generalize plNums l d c r=zs at CN hin hz8 Hrow
 have F1:=below1 w (.cells #[.int .i64 l,.int .i64 d,.int .i64 c] 25)
 have Hrd:=Lib.hid ((hrd.below F1 (Nat.le_refl _)).more F1.size)
 have Hin:=Lib.hid hin
 have Hn:=Lib.hid hn
 clear hrd hin hn
 go_enter Tryz.func37,Tryz.ntmps37
 go_wp2_with fail
 (with_reducible refine (CN.out _).mono ?_);rintro e w1 ⟨A1,c1,rfl,hz,hb⟩
 have F2:=F1.trans (hb.mono F1.size)
 have Hrd1:=Lib.hid ((Hrd.out.below hb (Nat.le_refl _)).more hb.size)
 have HZ:=Lib.hid hz
 clear hb hz CN G Hrd F1
 go_wp2_with fail
 go_loopw [9,16] (fun o i wr=>∃ (j:Nat) (vs:List Value),j ≤ zs.length∧i=.int .i64 j∧wr.ownsRow w1.heap.size 48 1 o j vs∧RowsX wr wr.heap.size o.ownBlock vs ((zs.take j).map fun n=>ds.getD (n - fr).toNat [])∧Below w1.heap.size w1 wr) (fun _ i _=>zs.length - (intOf i).toNat)
 case atStart=>exact ⟨0,[],Nat.zero_le _,rfl,World.ownsRow_nil _ _ _ _,RowsX.nil _ _ _,Below.refl _ _⟩
 case round =>
  obtain ⟨j,vs,hj,rfl,hown,hrows,hbr⟩:=hrel
  by_cases hlt:j < zs.length
  ·have i0:(0:Int) ≤ (j:Int):=by omega
   have i1:(j:Int) < (zs.length:Int):=by omega
   obtain ⟨bz,oz,rfl,hbz,hcz⟩:=HZ.out.2 (by omega)
   have h1:=hcz j hlt
   rw [← hbr.cell (p:=⟨bz,oz + j,none⟩) hbz] at h1
   have hzin:=Hin.out (zs.getD j 0) (by rw [List.getD_eq_getElem?_getD,List.getElem?_eq_getElem hlt];exact List.getElem_mem _)
   obtain ⟨q,hq⟩:∃ q:Nat,zs.getD j 0=fr + (q:Int):=⟨(zs.getD j 0 - fr).toNat,by omega⟩
   have hqn:q < n:=by omega
   obtain ⟨bd,od,rfl,hbd,hcd⟩:=Hrd1.out.2 (by rw [Hn.out];omega)
   obtain ⟨A',c',h2,h3⟩:=hcd q (by rw [Hn.out];exact hqn)
   rw [← hbr.cell (p:=⟨bd,od + q,none⟩) hbd] at h2
   have h3':=h3.below hbr (Nat.le_refl _)
   have hsn:=wrow_snoc zs fr ds hlt
   rw [hq,show (fr + (q:Int) - fr).toNat=q by omega] at hsn
   rw [hq] at h1
   have Hsn:=Lib.hid hsn
   have k0:(0:Int) ≤ (q:Int):=by omega
   have k1:(q:Int) < (n:Int):=by omega
   have hwq:IntKind.i64.wrap (fr + (q:Int) - fr)=(q:Int):=by rw [show fr + (q:Int) - fr=(q:Int) by omega];exact IntWalk.i64_in _ (by omega)
   have hs0:=hbr.size
   generalize ds.getD q []=row at h2 h3' Hsn
   have hne:0 < row.length→∀ a,A'=some a→some a.block ≠ _:=fun hp a ha e=>by
    obtain ⟨b',off',e',hb',_⟩:=h3'.2 hp
    rw [ha] at e'
    injection e' with e'
    have:=(hown.lt _ e.symm).1
    rw [e'] at this
    dsimp only at this
    omega
   have Hne:=Lib.hid hne
   clear hcz hcd h3 hsn hq hzin hne
   go_wp2_with (at_builtin;refine wpList_append_V rfl _ _ _ rfl w1.heap.size 48 (.slice none 0 0) 24 Tryz.underlying33 info_row rfl _ j vs rfl (hown.kept (grown_none (below1 wr _)) (Classical.em _)) (wr.heap.size + 1) (some ⟨wr.heap.size,0,none⟩) 1 1 [.slice A' row.length c'] rfl rfl (fun _=>⟨wr.heap.size,0,rfl,by omega,fun j hj=>by obtain rfl:j=0:=(by simp at hj;omega);exact cell_of_row _ _ _ _ _ _ (hp_new _ _ _ rfl)⟩) (fun u hu=>by simp at hu;subst hu;rfl) (by unfold maxLen;omega) (by omega) (by simp;omega) ?_;intro v2 w2 hown2 hg2 hat2)
   have hX:=((hrows.below (below1 wr (.cells #[.slice A' row.length c'] 48))).snoc (c:=c') (((h3'.below ((below1 wr _).mono hs0) (Nat.le_refl _)).more (by simp;omega))) Hne.out).grown hg2 hat2
   have hbw2:=(hbr.alloc hbr.size (.cells #[.slice A' row.length c'] 48)).grown hg2 (by simp;omega) (fun j hj=>(hown.lt j hj).1)
   rw [← Hsn.out] at hX
   have HX:=Lib.hid hX
   have HO:=Lib.hid hown2
   clear hX hown2 hg2 hat2 hown hrows h3' Hne Hsn
   go_wp2
   go_roundw
   case rel=>exact ⟨j + 1,_,by omega,by go_num,HO.out,HX.out,hbw2⟩
   case measure=>simp [intOf];omega
  ·obtain rfl:j=zs.length:=by omega
   have i1:¬ (zs.length:Int) < (zs.length:Int):=by omega
   have hl:((zs.take zs.length).map fun n=>ds.getD (n - fr).toNat [])=out:=by rw [List.take_length,Hrow.out]
   rw [hl] at hrows
   have hol:out.length=zs.length:=by rw [Hrow.out,List.length_map]
   obtain ⟨Ao,co,rfl,hor⟩:=rdr_own hown (Nat.le_refl _) (by rw [hol];omega) hrows.rowsV
   rw [hol]
   have HR:=Lib.hid hor
   have F3:=F2.trans (hbr.mono F2.size)
   clear hor hrows hown hl hol
   go_wp2
   go_ret
   exact ⟨Ao,⟨co,rfl⟩,HR.out,F3⟩
end Go.Proofs.YtldfoadildaljaaGreat
end
