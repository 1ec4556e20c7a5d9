/- Texts put together: WinMove, WinAny, WinWant, WinWakes, WinWr. -/
import Derived.Test.YtldfoadildaljaaGreatWmbj
import Derived.Test.YtldfoadildaljaaGreatWmbm
import Derived.Test.YtldfoadildaljaaGreatWmbi
import Derived.Test.YtldfoadildaljaaGreatWmaj
import Derived.Test.YtldfoadildaljaaGreatWmbh
import Derived.Test.YtldfoadildaljaaGreatWmat
import Derived.Test.YtldfoadildaljaaGreatWmag
import Derived.Test.YtldfoadildaljaaGreatWmbl
import Derived.Test.YtldfoadildaljaaGreatWmal
import Derived.Test.YtldfoadildaljaaGreatWmbf
section
set_option linter.unusedVariables false
set_option linter.unusedSimpArgs false
namespace Go.Proofs.YtldfoadildaljaaGreat
theorem one_str {N:Bch} {lv:List Bool} {nn l c:Int} {t D F W:Nat} {rs:List (List UInt8)} (hd:N.down=false) (gr:Gr nn l c (t:Int) D F W) (hrs:rs.length=W) (ha:∀ x ∈ rs,x.length=32) (hst:∀ i,i < D→srvD N lv i=true→secAt (N.D i).now (36 + t)=(fillL D F rs).getD i []) {j:Nat} (hj:j < W) :
    ((soneE N lv l (D:Int) c (plN l (D:Int) c (t:Int) (j:Int))=0∧soneB N lv l (D:Int) c (plN l (D:Int) c (t:Int) (j:Int))=rs.getD j [])∨soneE N lv l (D:Int) c (plN l (D:Int) c (t:Int) (j:Int))=7) ∧
    (((cntB D (fun i=>!srvD N lv i):Nat):Int) ≤ l - 4→soneE N lv l (D:Int) c (plN l (D:Int) c (t:Int) (j:Int))=0∧soneB N lv l (D:Int) c (plN l (D:Int) c (t:Int) (j:Int))=rs.getD j []):=by
 have ht:t < 16:=by have:=gr.r0;omega
 have hs:=row_std (F:=F) (rs:=rs) hd hst
 have key:srdE N lv l (D:Int) c (t:Int)=0∧srdL N lv l (D:Int) c (t:Int)=rs→soneE N lv l (D:Int) c (plN l (D:Int) c (t:Int) (j:Int))=0∧soneB N lv l (D:Int) c (plN l (D:Int) c (t:Int) (j:Int))=rs.getD j []:=fun h=>by
  have:=hs.one (lv:=lv) gr ht hrs (if_pos rfl) (by rw [(only_srd N lv _ _ _ _).1,(only_srd N lv _ _ _ _).2];exact h) hj
  rwa [(only_one N lv _ _ _ _).1,(only_one N lv _ _ _ _).2] at this
 refine ⟨?_,fun hc=>key (row_ok hd gr hrs ha hst hc)⟩
 rcases row_or hd gr hrs ha hst with h | h
 ·exact .inl (key h)
 ·cases hq:srvD N lv (roS D F j) with
  | true =>
    left
    obtain ⟨h1,h2⟩:=one_own gr hj hd hq
    refine ⟨h1,h2.trans ?_⟩
    have hW:=gr.hW
    rw [hst _ (roS_lt gr.hF (by omega)) hq,fillL_at gr.hF (by omega),allL_data (by omega)]
  | false =>
    right
    rw [(one_row (N:=N) (lv:=lv) gr hj hq).1,h]
def valOf (l d c:Int) (rs:Nat→List (List UInt8)) (n:Int):List UInt8:=(rs (plRow l d c n).toNat).getD (kOf l d c n) []
theorem val_num {l d c:Int} {rs:Nat→List (List UInt8)} {t k:Nat} (h:plDok l d c (t:Int) (k:Int)=true):valOf l d c rs (plN l d c (t:Int) (k:Int))=(rs t).getD k []:=by
 obtain ⟨_,_,h3,h4⟩:=num_row h
 unfold valOf kOf
 rw [h3,h4,Int.toNat_natCast,Int.toNat_natCast]
theorem nums_wid {l d c:Int} (h:gOk l d c=true) {t:Nat} (ht:t < 16):(plNums l d c (t:Int)).length=roW l d:=by
 rw [plNums_len (plOk_mk h (by omega) (by omega)),gWid_yes h];rfl
section
variable {l d c l' d' c' R K wa wb:Int}
theorem Pn.sok (P:Pn l d c l' d' c' R K wa wb) {k:Int} (h0:0 ≤ k) (h1:k < K):pnSok l d c l' d' c' k=true:=by unfold pnSok;rw [P.eK];exact decide_eq_true ⟨h0,h1⟩
theorem Pn.frm (P:Pn l d c l' d' c' R K wa wb) {k:Int} (h0:0 ≤ k) (h1:k < K):pnF l d c l' d' c' k=k * (R * wb):=by unfold pnF;rw [if_pos (P.sok h0 h1),P.n]
theorem Pn.wrow_eq (P:Pn l d c l' d' c' R K wa wb) {k:Int} (k0:0 ≤ k) {t:Nat} (ht:t < 16) (h0:k * R ≤ (t:Int)) (h1:(t:Int) < (k + 1) * R) (cap:Int) (val:Int→List UInt8) :
    wrow l' d' c' (t:Int) (k * (R * wb)) (wlist cap val (k * (R * wb)) (R * wb).toNat)=(plNums l' d' c' (t:Int)).map (upTo cap val):=by
 unfold wrow
 refine List.map_congr_left fun n hn=>?_
 have hok:=plOk_mk P.b (show (0:Int) ≤ (t:Int) by omega) (by omega)
 unfold plNums at hn
 rw [if_pos hok] at hn
 obtain ⟨j,hj,rfl⟩:=List.mem_map.1 hn
 have hj':=List.mem_range.1 hj
 rw [P.ew'] at hj'
 obtain ⟨s1,s2⟩:=P.span (j:=(j:Int)) h0 h1 (by omega) (by omega)
 have e:(k + 1) * (R * wb)=k * (R * wb) + R * wb:=by rw [Int.add_mul,Int.one_mul]
 rw [e] at s2
 rw [wlist_get (by omega)]
 congr 1
 omega
end
def mvR (l d c l' d' c':Int) (rs:Nat→List (List UInt8)) (s:Int) (t:Nat):List (List UInt8):=if (t:Int) < s then (plNums l' d' c' (t:Int)).map (upTo (gCap l d c) (valOf l d c rs)) else rs t
structure Mr (M:Bch) (lv:List Bool) (l d c:Int) (rs:Nat→List (List UInt8)) (s:Int):Prop where
 dn:M.down=false
 st:∀ t:Nat,t < 16→s ≤ (t:Int)→∀ i:Nat,(i:Int) < d→srvD M lv i=true→secAt (M.D i).now (36 + t)=(fillL (roD d) (roF l d c (t:Int)) (rs t)).getD i []
structure Mv (M:Bch) (m:Nat) (lv:List Bool) (l d c l' d' c':Int) (rs:Nat→List (List UInt8)) (s:Int):Prop where
 wg:Wg M m
 st:StR M lv ⟨l,d,c,l',d',c',s⟩ (mvR l d c l' d' c' rs s)
structure Mw (M:Bch) (m:Nat) (lv:List Bool) (l d c l' d' c':Int) (rs:Nat→List (List UInt8)) (s s':Int):Prop where
 wg:Wg M m
 st:∀ t:Nat,t < 16→¬ (s ≤ (t:Int)∧(t:Int) < s')→∀ i:Nat,(i:Int) < (⟨l,d,c,l',d',c',s⟩:RG).D t→srvD M lv i=true→secAt (M.D i).now (36 + t)=(flR ⟨l,d,c,l',d',c',s⟩ (mvR l d c l' d' c' rs s) t).getD i []
theorem Mv.mw {M:Bch} {m:Nat} {lv:List Bool} {l d c l' d' c':Int} {rs:Nat→List (List UInt8)} {s:Int} (h:Mv M m lv l d c l' d' c' rs s) (s':Int):Mw M m lv l d c l' d' c' rs s s':=⟨h.wg,fun t ht _=>h.st t ht⟩
section
variable {M:Bch} {m:Nat} {lv:List Bool} {l d c l' d' c' R K wa wb:Int} {rs:Nat→List (List UInt8)}
theorem rg_lt {s x x':Int} {t:Nat} (h:(t:Int) < s):rg s x x' t=x':=if_pos h
theorem rg_ge {s x x':Int} {t:Nat} (h:¬ (t:Int) < s):rg s x x' t=x:=if_neg h
theorem Mr.read (P:Pn l d c l' d' c' R K wa wb) {k:Int} (k0:0 ≤ k) (k1:k < K) (h:Mr M lv l d c rs (k * R)) (hr:∀ t,t < 16→(rs t).length=roW l d∧∀ x ∈ rs t,x.length=32) :
    (wrdS M lv l d c l' d' c' k=(0,wlist (gCap l d c) (valOf l d c rs) (k * (R * wb)) (R * wb).toNat)∨(wrdS M lv l d c l' d' c' k=(7,[])∧k * (R * wb) < gCap l d c)) ∧
    (((cntB d.toNat (fun i=>!srvD M lv i):Nat):Int) ≤ l - 4→wrdS M lv l d c l' d' c' k=(0,wlist (gCap l d c) (valOf l d c rs) (k * (R * wb)) (R * wb).toNat)):=by
 have hs:=P.sok k0 k1
 have hf:=P.frm k0 k1
 have hb:=gOk_bd P.a
 obtain ⟨D,rfl⟩:∃ D:Nat,d=(D:Int):=⟨d.toNat,by omega⟩
 have hnb:=P.n_bd
 have hk0:0 ≤ k * (R * wb):=Int.mul_nonneg k0 (by omega)
 have one:∀ j:Nat,k * (R * wb) + (j:Int) < gCap l (D:Int) c→((soneE M lv l (D:Int) c (k * (R * wb) + (j:Int))=0∧soneB M lv l (D:Int) c (k * (R * wb) + (j:Int))=valOf l (D:Int) c rs (k * (R * wb) + (j:Int)))∨soneE M lv l (D:Int) c (k * (R * wb) + (j:Int))=7) ∧
     (((cntB D (fun i=>!srvD M lv i):Nat):Int) ≤ l - 4→soneE M lv l (D:Int) c (k * (R * wb) + (j:Int))=0∧soneB M lv l (D:Int) c (k * (R * wb) + (j:Int))=valOf l (D:Int) c rs (k * (R * wb) + (j:Int))):=fun j hj=>by
  obtain ⟨n,hn⟩:∃ n,k * (R * wb) + (j:Int)=n:=⟨_,rfl⟩
  have hcov:=(P.covers k0 (show 0 ≤ n by omega)).2 (by omega)
  rw [hn] at hj ⊢
  obtain ⟨o1,o2,o3,o4,_,o6⟩:=of_row P.a (show 0 ≤ n by omega) hj
  obtain ⟨t,ht⟩:∃ t:Nat,plRow l (D:Int) c n=(t:Int):=⟨(plRow l (D:Int) c n).toNat,by omega⟩
  obtain ⟨q,hq⟩:∃ q:Nat,n / c % ((D:Int) - (l - 4))=(q:Int):=⟨(n / c % ((D:Int) - (l - 4))).toNat,by omega⟩
  rw [ht] at o2 hcov o6
  rw [hq] at o4 o6
  have gr:=gr_mk (l:=l) (c:=c) (r:=(t:Int)) (D:=D) P.a (by omega) o2
  obtain ⟨r1,r2⟩:=hr t (by omega)
  have hst:∀ i,i < D→srvD M lv i=true→secAt (M.D i).now (36 + t)=(fillL D (roF l (D:Int) c (t:Int)) (rs t)).getD i []:=fun i hi hsv=>by
   have:=h.st t (by omega) (by omega) i (by omega) hsv
   rw [gr.eD] at this
   exact this
  have hqW:q < roW l (D:Int):=by unfold roW;omega
  have hv:valOf l (D:Int) c rs n=(rs t).getD q []:=by
   unfold valOf kOf
   rw [ht,hq,Int.toNat_natCast,Int.toNat_natCast]
  have:=one_str (lv:=lv) h.dn gr r1 r2 hst (j:=q) hqW
  rw [o6,← hv] at this
  exact this
 unfold wrdS
 rw [if_pos hs,hf,P.n]
 exact ⟨wrd_or _ fun j _ hj=>(one j hj).1,fun hc=>wrd_ok _ fun j _ hj=>(one j hj).2 hc⟩
theorem Mv.mr {s:Int} (h:Mv M m lv l d c l' d' c' rs s):Mr M lv l d c rs s:=⟨h.wg.dn,fun t ht h1 i hi hsv=>by
 have hlt:¬ (t:Int) < s:=by omega
 have:=h.st t ht i (by show (i:Int) < rg _ _ _ t;rw [rg_ge hlt];exact hi) hsv
 rw [this]
 unfold flR mvR RG.D RG.L RG.C
 dsimp only
 rw [rg_ge hlt,rg_ge hlt,rg_ge hlt,if_neg hlt]⟩
theorem Mv.read (P:Pn l d c l' d' c' R K wa wb) {k:Int} (k0:0 ≤ k) (k1:k < K) (h:Mv M m lv l d c l' d' c' rs (k * R)) (hr:∀ t,t < 16→(rs t).length=roW l d∧∀ x ∈ rs t,x.length=32) :
    (wrdS M lv l d c l' d' c' k=(0,wlist (gCap l d c) (valOf l d c rs) (k * (R * wb)) (R * wb).toNat)∨(wrdS M lv l d c l' d' c' k=(7,[])∧k * (R * wb) < gCap l d c)) ∧
    (((cntB d.toNat (fun i=>!srvD M lv i):Nat):Int) ≤ l - 4→wrdS M lv l d c l' d' c' k=(0,wlist (gCap l d c) (valOf l d c rs) (k * (R * wb)) (R * wb).toNat)):=h.mr.read P k0 k1 hr
theorem Mw.write (P:Pn l d c l' d' c' R K wa wb) {k:Int} (k0:0 ≤ k) (k1:k < K) (h:Mw M m lv l d c l' d' c' rs (k * R) ((k + 1) * R)) (hr:∀ t,t < 16→(rs t).length=roW l d∧∀ x ∈ rs t,x.length=32) :
    (wwrS M lv l d c l' d' c' k (wlist (gCap l d c) (valOf l d c rs) (k * (R * wb)) (R * wb).toNat)).1=0 ∧
    Mv (wwrS M lv l d c l' d' c' k (wlist (gCap l d c) (valOf l d c rs) (k * (R * wb)) (R * wb).toNat)).2 m lv l d c l' d' c' rs ((k + 1) * R) ∧
    Wx M (wwrS M lv l d c l' d' c' k (wlist (gCap l d c) (valOf l d c rs) (k * (R * wb)) (R * wb).toNat)).2 m lv d'.toNat (k * R).toNat R.toNat (wfl l' d' c' (k * (R * wb)) (wlist (gCap l d c) (valOf l d c rs) (k * (R * wb)) (R * wb).toNat)):=by
 have hs:=P.sok k0 k1
 have hf:=P.frm k0 k1
 have hb:=gOk_bd P.b
 obtain ⟨D,rfl⟩:∃ D:Nat,d'=(D:Int):=⟨d'.toNat,by omega⟩
 have hrw:=P.rows
 have hnb:=P.n_bd
 have hk0:0 ≤ k * R:=Int.mul_nonneg k0 (by omega)
 have hk1:(k + 1) * R=k * R + R:=by rw [Int.add_mul,Int.one_mul]
 have hk16:(k + 1) * R ≤ 16:=by
  have:(k + 1) * R ≤ K * R:=Int.mul_le_mul_of_nonneg_right (by omega) (by omega)
  have e:K * R=R * K:=Int.mul_comm _ _
  omega
 obtain ⟨r0,hr0⟩:∃ r0:Nat,k * R=(r0:Int):=⟨(k * R).toNat,by omega⟩
 obtain ⟨Rn,hRn⟩:∃ Rn:Nat,R=(Rn:Int):=⟨R.toNat,by omega⟩
 have hwq:=fun (t:Nat) (ht:t < 16) (h0:k * R ≤ (t:Int)) (h1:(t:Int) < (k + 1) * R)=>P.wrow_eq k0 ht h0 h1 (gCap l d c) (valOf l d c rs)
 obtain ⟨ds,hds⟩:∃ ds,wlist (gCap l d c) (valOf l d c rs) (k * (R * wb)) (R * wb).toNat=ds:=⟨_,rfl⟩
 have hdl:ds.length=(R * wb).toNat:=by rw [← hds];exact wlist_len _ _ _ _
 rw [hds] at hwq ⊢
 have hv32:∀ n,0 ≤ n→(upTo (gCap l d c) (valOf l d c rs) n).length=32:=fun n h0=>by
  unfold upTo
  split
  ·next h1 =>
   obtain ⟨o1,o2,o3,o4,_,_⟩:=of_row P.a h0 h1
   obtain ⟨r1,r2⟩:=hr (plRow l d c n).toNat (by omega)
   unfold valOf
   have hq:kOf l d c n < (rs (plRow l d c n).toNat).length:=by rw [r1];unfold kOf roW;omega
   rw [List.getD_eq_getElem?_getD,List.getElem?_eq_getElem hq]
   exact r2 _ (List.getElem_mem _)
  ·rfl
 have hw:∀ t:Nat,r0 ≤ t→t < r0 + Rn→(wrow l' (D:Int) c' (t:Int) (k * (R * wb)) ds).length=roW l' (D:Int)∧∀ x ∈ wrow l' (D:Int) c' (t:Int) (k * (R * wb)) ds,x.length=32:=fun t h0 h1=>by
  rw [hwq t (by omega) (by omega) (by omega)]
  refine ⟨by rw [List.length_map];exact nums_wid P.b (by omega),fun x hx=>?_⟩
  obtain ⟨n,hn,rfl⟩:=List.mem_map.1 hx
  have hok:=plOk_mk P.b (show (0:Int) ≤ (t:Int) by omega) (by omega)
  unfold plNums at hn
  rw [if_pos hok] at hn
  obtain ⟨j,hj,rfl⟩:=List.mem_map.1 hn
  have hj':=List.mem_range.1 hj
  exact hv32 _ (num_row (plDok_mk hok (by omega) (by omega))).1
 obtain ⟨e1,w1⟩:=ww_good (N:=M) (lv:=lv) (fr:=k * (R * wb)) (ds:=ds) P.b Rn (by omega) hw h.wg.dn h.wg.lf Rn (Nat.le_refl _)
 obtain ⟨e2,x2⟩:=wx_of h.wg w1
 have h32:∀ x ∈ ds,x.length=32:=fun x hx=>by
  rw [← hds] at hx
  obtain ⟨j,hj,rfl⟩:=List.mem_map.1 hx
  exact hv32 _ (by have:=Int.mul_nonneg k0 (show (0:Int) ≤ R * wb by omega);omega)
 have hB:wwrB l d c l' (D:Int) c' k ds=false:=by
  unfold wwrB
  rw [hs,decide_eq_false (by rw [P.n,hdl];omega),all32_iff.2 h32];rfl
 have hS:wwrS M lv l d c l' (D:Int) c' k ds=sflS (wwrTo M lv l' (D:Int) c' (r0:Int) (k * (R * wb)) ds Rn).2 lv:=by
  unfold wwrS
  rw [if_neg (by rw [hB];decide),hf,P.eR,hr0,show R.toNat=Rn by omega,if_neg (by rw [e1];decide)]
 rw [hS,show ((D:Int)).toNat=D by omega,show (k * R).toNat=r0 by omega,show R.toNat=Rn by omega]
 refine ⟨e2,⟨x2.wg,fun t ht i hi hsv=>?_⟩,x2⟩
 have hsv':srvD M lv i=true:=by rw [← x2.srv h.wg.n i];exact hsv
 have him:i < m:=by rw [← h.wg.n];exact (srvD_yes hsv').1
 rw [x2.sec i him (36 + t) (by omega),show 36 + t - 36=t by omega]
 by_cases q:r0 ≤ t∧t < r0 + Rn
 ·have hlt:(t:Int) < (k + 1) * R:=by omega
  have hi':i < D:=by
   have:(i:Int) < rg _ _ _ t:=hi
   rw [rg_lt hlt] at this
   have this':(i:Int) < (D:Int):=this
   omega
  rw [if_pos ⟨by omega,by omega,hi',hsv'⟩]
  unfold wfl flR mvR RG.D RG.L RG.C
  dsimp only
  rw [rg_lt hlt,rg_lt hlt,rg_lt hlt,if_pos hlt,hwq t ht (by omega) (by omega)]
 ·rw [if_neg (fun hh=>q ⟨by omega,by omega⟩)]
  by_cases q2:(t:Int) < k * R
  ·have hlt:(t:Int) < (k + 1) * R:=by omega
   have:=h.st t ht (by omega) i (by
    have:(i:Int) < rg _ _ _ t:=hi
    rw [rg_lt hlt] at this
    show (i:Int) < rg _ _ _ t
    rw [rg_lt q2];exact this) hsv'
   rw [this]
   unfold flR mvR RG.D RG.L RG.C
   dsimp only
   rw [rg_lt hlt,rg_lt hlt,rg_lt hlt,if_pos hlt,rg_lt q2,rg_lt q2,rg_lt q2,if_pos q2]
  ·have hlt:¬ (t:Int) < (k + 1) * R:=by omega
   have:=h.st t ht (by omega) i (by
    have:(i:Int) < rg _ _ _ t:=hi
    rw [rg_ge hlt] at this
    show (i:Int) < rg _ _ _ t
    rw [rg_ge q2];exact this) hsv'
   rw [this]
   unfold flR mvR RG.D RG.L RG.C
   dsimp only
   rw [rg_ge hlt,rg_ge hlt,rg_ge hlt,if_neg hlt,rg_ge q2,rg_ge q2,rg_ge q2,if_neg q2]
theorem Mv.write (P:Pn l d c l' d' c' R K wa wb) {k:Int} (k0:0 ≤ k) (k1:k < K) (h:Mv M m lv l d c l' d' c' rs (k * R)) (hr:∀ t,t < 16→(rs t).length=roW l d∧∀ x ∈ rs t,x.length=32) :
    (wwrS M lv l d c l' d' c' k (wlist (gCap l d c) (valOf l d c rs) (k * (R * wb)) (R * wb).toNat)).1=0 ∧
    Mv (wwrS M lv l d c l' d' c' k (wlist (gCap l d c) (valOf l d c rs) (k * (R * wb)) (R * wb).toNat)).2 m lv l d c l' d' c' rs ((k + 1) * R) ∧
    Wx M (wwrS M lv l d c l' d' c' k (wlist (gCap l d c) (valOf l d c rs) (k * (R * wb)) (R * wb).toNat)).2 m lv d'.toNat (k * R).toNat R.toNat (wfl l' d' c' (k * (R * wb)) (wlist (gCap l d c) (valOf l d c rs) (k * (R * wb)) (R * wb).toNat)) :=
 (h.mw _).write P k0 k1 hr
end
end Go.Proofs.YtldfoadildaljaaGreat
end
section
set_option linter.unusedVariables false
set_option linter.unusedSimpArgs false
namespace Go.Proofs.YtldfoadildaljaaGreat
section
variable {l d c l' d' c' R K wa wb:Int}
end
end Go.Proofs.YtldfoadildaljaaGreat
end
section
set_option maxRecDepth 20000
set_option linter.unusedVariables false
set_option linter.unusedSimpArgs false
namespace Go.Proofs.YtldfoadildaljaaGreat
open Go.RowKit
theorem dat32 {zs:List Int} {ρ W k:Nat} (h:k < W):((datL zs ρ W).getD k []).length=32:=mem_getD datL_mem (by rw [datL_len];exact h)
theorem num_at {l c n:Int} {D:Nat} (hg:gOk l (D:Int) c=true) (h0:0 ≤ n) (h1:n < gCap l (D:Int) c):∃ ρ q:Nat,ρ < 16∧q < roW l (D:Int)∧plOfR l (D:Int) c n=(ρ:Int)∧plOfOk l (D:Int) c n=true∧plN l (D:Int) c (ρ:Int) (q:Int)=n∧∀ rs:Nat→List (List UInt8),valOf l (D:Int) c rs n=(rs ρ).getD q []:=by
 obtain ⟨o1,o2,o3,o4,_,o6⟩:=of_row hg h0 h1
 obtain ⟨y1,y2,_,_⟩:=of_yes hg h0 h1
 obtain ⟨ρ,hρ⟩:∃ ρ:Nat,plRow l (D:Int) c n=(ρ:Int):=⟨(plRow l (D:Int) c n).toNat,by omega⟩
 obtain ⟨q,hq⟩:∃ q:Nat,n / c % ((D:Int) - (l - 4))=(q:Int):=⟨(n / c % ((D:Int) - (l - 4))).toNat,by omega⟩
 rw [hρ,hq] at o6
 refine ⟨ρ,q,by omega,by unfold roW;omega,y2.trans hρ,y1,o6,fun rs=>?_⟩
 unfold valOf kOf
 rw [hρ,hq,Int.toNat_natCast,Int.toNat_natCast]
end Go.Proofs.YtldfoadildaljaaGreat
end
section
set_option maxRecDepth 20000
set_option linter.unusedVariables false
set_option linter.unusedSimpArgs false
namespace Go.Proofs.YtldfoadildaljaaGreat
open Go.RowKit
theorem wak_sok:pnSok 5 3 1 5 4 1 15=true:=by decide
theorem wak_f:pnF 5 3 1 5 4 1 15=45:=by decide
theorem wak_n:pnN 5 3 1 5 4 1=3:=by decide
theorem wak_cap:gCap 5 3 1=32:=by decide
theorem wak_read (N:Bch) (lv:List Bool):wrdS N lv 5 3 1 5 4 1 15=(0,[zeroL 32,zeroL 32,zeroL 32]):=by
 unfold wrdS
 rw [if_pos wak_sok,wak_f,wak_n]
 have h:=wrd_ok (N:=N) (lv:=lv) (l:=5) (d:=3) (c:=1) (fr:=45) (val:=fun _=>[]) 3 fun j hj hh=>by rw [wak_cap] at hh;omega
 rw [show (3:Int).toNat=3 from rfl,h]
 unfold wlist
 rw [wak_cap]
 rfl
set_option maxRecDepth 100000 in
set_option maxHeartbeats 1600000 in
theorem winWakes_any (P:WinP) (W:World):Calls Tryz.prog 20 #[] W fun e w'=>e=.returned (.bool true)∧Below W.heap.size W w':=by
 have hpn:=ptr_eq
 have hmk:∀ w,(Instr.makeSlice 48 (.int .i64 32) (.int .i64 32)).run Tryz.prog w=.ok (.slice (some ⟨w.heap.size,0,none⟩) 32 32) (w.alloc (.cells (zcells 32) 5)):=make_bytes 32 (by omega)
 have CN:=Lib.hid (bp_new 4 W W (Below.refl _ _) (by omega))
 have HP:=Lib.hid P
 clear P
 go_enter Tryz.func20,Tryz.ntmps20
 go_wp2_with fail
 refine CN.out.mono ?_
 rintro e w ⟨b,H,rfl,hp,_,_⟩
 have k1:=(show KX W w b H (Bch.new 4) [] from ⟨hp,fun p hp=>by cases hp⟩).ks.add (.cells #[.bool true,.bool true,.bool true,.bool true] 4 (0,0))
 have CR:=HP.out.rd W _ b H _ _ _ _ k1 [true,true,true,true] (some ⟨w.heap.size,0,none⟩) 4 4 rfl (k1.lv (List.mem_cons_self ..) rfl (by decide)) 5 3 1 5 4 1 15 (by omega) (by omega) (by omega) (by omega) (by omega) (by omega) (by omega)
 rw [wak_read] at CR
 replace CR:=Lib.hid CR
 clear hp k1
 unfold ptr
 go_wp2_with fail
 refine CR.out.mono ?_
 rintro e w2 ⟨A,c0,rfl,k2⟩
 have F:=k2.bp.bel
 obtain ⟨g,o,A1,c1,hA,z0,hr⟩:=(k2.rx (A,[zeroL 32,zeroL 32,zeroL 32]) (List.mem_cons_self ..)).at (k:=2) (Nat.lt_succ_self 2)
 dsimp only at hA z0 hr
 subst hA
 have hg:g < w2.heap.size:=World.block_lt_of_cell? _ _ z0
 have hr0:=hr.rdb
 rw [show ([zeroL 32,zeroL 32,zeroL 32].getD 2 [])=zeroL 32 from rfl] at hr0 z0
 rw [zl32] at z0
 clear k2 hr CR CN HP
 rw [show ([zeroL 32,zeroL 32,zeroL 32]:List (List UInt8)).length=3 from rfl]
 go_wp2_with fail
 refine wp_region_noPanic (region_ord 15 [] (fun V=>Below w2.heap.size w2 V) (by kernel_rfl) (by kernel_rfl) (fun _ _ _ _ _ h=>h) fun R=>?_)
 change anyI _ _ _ _ _ _ 15 _ _ w2.drew
 have HS0:=Lib.hid (show (fun V=>Below w2.heap.size w2 V) w2.drew from (Below.refl _ _).drew)
 refine' anyI_take R 0 rfl (v:=?_) (by kernel_rfl) (by rfl) (fun V hV=>?hy) HS0.out ?_
 case hy=>((try dsimp only at hV); have y0:=(hV.cell (p:=⟨g,o + 2,none⟩) hg).trans z0;go_simp;try with_reducible rfl)
 try simp only [Act.put,List.getElem_toArray,List.getElem_cons_succ,List.getElem_cons_zero,List.setIfInBounds_toArray,List.set_cons_zero,List.set_cons_succ]
 refine' anyI_take R 1 rfl (v:=?_) (by kernel_rfl) (by rfl) (fun V hV=>?hy) HS0.out ?_
 case hy=>((try dsimp only at hV); have y0:=(hV.cell (p:=⟨g,o + 2,none⟩) hg).trans z0;go_simp;try with_reducible rfl)
 try simp only [Act.put,List.getElem_toArray,List.getElem_cons_succ,List.getElem_cons_zero,List.setIfInBounds_toArray,List.set_cons_zero,List.set_cons_succ]
 refine' anyI_take R 2 rfl (v:=?_) (by kernel_rfl) (by rfl) (fun V hV=>?hy) HS0.out ?_
 case hy=>((try dsimp only at hV); have y0:=(hV.cell (p:=⟨g,o + 2,none⟩) hg).trans z0;go_simp;try with_reducible rfl)
 try simp only [Act.put,List.getElem_toArray,List.getElem_cons_succ,List.getElem_cons_zero,List.setIfInBounds_toArray,List.set_cons_zero,List.set_cons_succ]
 refine' anyI_take R 3 rfl (v:=?_) (by kernel_rfl) (by rfl) (fun V hV=>?hy) HS0.out ?_
 case hy=>((try dsimp only at hV); have y0:=(hV.cell (p:=⟨g,o + 2,none⟩) hg).trans z0;go_simp;try with_reducible rfl)
 try simp only [Act.put,List.getElem_toArray,List.getElem_cons_succ,List.getElem_cons_zero,List.setIfInBounds_toArray,List.set_cons_zero,List.set_cons_succ]
 refine' anyI_take R 4 rfl (v:=?_) (by kernel_rfl) (by rfl) (fun V hV=>?hy) HS0.out ?_
 case hy=>((try dsimp only at hV); have y0:=(hV.cell (p:=⟨g,o + 2,none⟩) hg).trans z0;go_simp;try with_reducible rfl)
 try simp only [Act.put,List.getElem_toArray,List.getElem_cons_succ,List.getElem_cons_zero,List.setIfInBounds_toArray,List.set_cons_zero,List.set_cons_succ]
 refine' anyI_take R 5 rfl (v:=?_) (by kernel_rfl) (by rfl) (fun V hV=>?hy) HS0.out ?_
 case hy=>((try dsimp only at hV); have y0:=(hV.cell (p:=⟨g,o + 2,none⟩) hg).trans z0;go_simp;try with_reducible rfl)
 try simp only [Act.put,List.getElem_toArray,List.getElem_cons_succ,List.getElem_cons_zero,List.setIfInBounds_toArray,List.set_cons_zero,List.set_cons_succ]
 refine' anyI_take R 6 rfl (v:=?_) (by kernel_rfl) (by rfl) (fun V hV=>?hy) HS0.out ?_
 case hy=>((try dsimp only at hV); have y0:=(hV.cell (p:=⟨g,o + 2,none⟩) hg).trans z0;go_simp;try with_reducible rfl)
 try simp only [Act.put,List.getElem_toArray,List.getElem_cons_succ,List.getElem_cons_zero,List.setIfInBounds_toArray,List.set_cons_zero,List.set_cons_succ]
 refine' anyI_take R 7 rfl (v:=?_) (by kernel_rfl) (by rfl) (fun V hV=>?hy) HS0.out ?_
 case hy=>((try dsimp only at hV); have y0:=(hV.cell (p:=⟨g,o + 2,none⟩) hg).trans z0;go_simp;try with_reducible rfl)
 try simp only [Act.put,List.getElem_toArray,List.getElem_cons_succ,List.getElem_cons_zero,List.setIfInBounds_toArray,List.set_cons_zero,List.set_cons_succ]
 refine' anyI_take R 8 rfl (v:=?_) (by kernel_rfl) (by rfl) (fun V hV=>?hy) HS0.out ?_
 case hy=>((try dsimp only at hV); have y0:=(hV.cell (p:=⟨g,o + 2,none⟩) hg).trans z0;go_simp;try with_reducible rfl)
 try simp only [Act.put,List.getElem_toArray,List.getElem_cons_succ,List.getElem_cons_zero,List.setIfInBounds_toArray,List.set_cons_zero,List.set_cons_succ]
 refine' anyI_take R 9 rfl (v:=?_) (by kernel_rfl) (by rfl) (fun V hV=>?hy) HS0.out ?_
 case hy=>((try dsimp only at hV); have y0:=(hV.cell (p:=⟨g,o + 2,none⟩) hg).trans z0;go_simp;try with_reducible rfl)
 try simp only [Act.put,List.getElem_toArray,List.getElem_cons_succ,List.getElem_cons_zero,List.setIfInBounds_toArray,List.set_cons_zero,List.set_cons_succ]
 refine' anyI_take R 10 rfl (v:=?_) (by kernel_rfl) (by rfl) (fun V hV=>?hy) HS0.out ?_
 case hy=>((try dsimp only at hV); have y0:=(hV.cell (p:=⟨g,o + 2,none⟩) hg).trans z0;go_simp;try with_reducible rfl)
 try simp only [Act.put,List.getElem_toArray,List.getElem_cons_succ,List.getElem_cons_zero,List.setIfInBounds_toArray,List.set_cons_zero,List.set_cons_succ]
 refine anyI_one 11 (by kernel_rfl) rfl ?_
 try simp only [List.getElem_toArray,List.getElem_cons_succ,List.getElem_cons_zero]
 refine opE_step ?_
 rw [if_pos (by rfl)]
 go_simp
 have hrp:RdB (w2.alloc (.cells (zcells 32) 5)).drew (w2.alloc (.cells (zcells 32) 5)).drew.heap.size (some ⟨w2.heap.size,0,none⟩) (zeroL 32):=(rdb_zc w2).keep (Nat.le_refl _) (fun _ _=>rfl)
 replace HS0:=Lib.hid (show Below w2.heap.size w2 (w2.alloc (.cells (zcells 32) 5)).drew from (below1 w2 _).drew)
 obtain ⟨V11,hV11⟩:∃ V,(w2.alloc (.cells (zcells 32) 5)).drew=V:=⟨_,rfl⟩
 rw [hV11] at HS0 hrp ⊢
 clear hV11
 try dsimp only
 refine ⟨HS0.out,?_⟩
 try simp only [Act.put,List.getElem_toArray,List.getElem_cons_succ,List.getElem_cons_zero,List.setIfInBounds_toArray,List.set_cons_zero,List.set_cons_succ]
 refine anyI_one 12 (by kernel_rfl) rfl ?_
 try simp only [List.getElem_toArray,List.getElem_cons_succ,List.getElem_cons_zero]
 refine opE_step ?_
 rw [if_pos (by rfl)]
 go_simp
 go_at_call 19
 have hsz:=HS0.out.size
 have CS:=Lib.hid (sameT_any (c:=c1) (c':=32) (bs:=zeroL 32) zl32.symm zl32.symm ((hr0.below HS0.out (Nat.le_refl _)).more hsz) hrp)
 (with_reducible refine CS.out.mono ?_)
 rintro e w12 ⟨rfl,m12,hw12⟩
 replace HS0:=Lib.hid (show Below w2.heap.size w2 w12 by rw [hw12];exact HS0.out.trans (belowN _ _ m12))
 clear hw12
 try dsimp only
 refine ⟨HS0.out,?_⟩
 try simp only [Act.put,List.getElem_toArray,List.getElem_cons_succ,List.getElem_cons_zero,List.setIfInBounds_toArray,List.set_cons_zero,List.set_cons_succ]
 refine' anyI_take R 13 rfl (v:=?_) (by kernel_rfl) (by rfl) (fun V hV=>?hy) HS0.out ?_
 case hy=>((try dsimp only at hV); have y0:=(hV.cell (p:=⟨g,o + 2,none⟩) hg).trans z0;go_simp;try with_reducible rfl)
 try simp only [Act.put,List.getElem_toArray,List.getElem_cons_succ,List.getElem_cons_zero,List.setIfInBounds_toArray,List.set_cons_zero,List.set_cons_succ]
 refine' anyI_take R 14 rfl (v:=?_) (by kernel_rfl) (by rfl) (fun V hV=>?hy) HS0.out ?_
 case hy=>((try dsimp only at hV); have y0:=(hV.cell (p:=⟨g,o + 2,none⟩) hg).trans z0;go_simp;try with_reducible rfl)
 try simp only [Act.put,List.getElem_toArray,List.getElem_cons_succ,List.getElem_cons_zero,List.setIfInBounds_toArray,List.set_cons_zero,List.set_cons_succ]
 refine anyI_tail (by kernel_rfl) ?_
 try simp only [List.drop_succ_cons,List.drop_zero]
 clear R
 go_wp2_with fail
 refine NoPanic.normal ?_
 go_wp2_with fail
 go_ret
 exact ⟨rfl,F.trans (HS0.out.mono F.size)⟩
end Go.Proofs.YtldfoadildaljaaGreat
end
section
set_option maxRecDepth 20000
set_option linter.unusedVariables false
set_option linter.unusedSimpArgs false
namespace Go.Proofs.YtldfoadildaljaaGreat
open Go.RowKit
theorem KS.bcO {W w w':World} {b:Nat} {H:BH} {N N':Bch} {K:List (Nat × Obj)} {R:List (Option Addr × List (List UInt8))} {S:List (Option Addr × List UInt8)} {A:Option Addr} {lv:List Bool} (h:KS W w b H N K R S) (hv:RdOX (BF b H N.n) w A lv) (hc:BC W w w' b H N.n N') (hn:N'.n=N.n):∃ H',KS W w' b H' N' K R S∧RdOX (BF b H' N'.n) w' A lv:=by
 obtain ⟨H',a,c,m⟩:=hc
 have hx:KX W w' b H' N' K:=by
  refine ⟨a,fun p hp=>?_⟩
  obtain ⟨h1,h2,h3⟩:=h.kx.kp p hp
  have hl:=(Array.getElem?_eq_some_iff.1 h1).1
  exact ⟨(c.block _ hl h2).trans h1,by rw [hn];exact BC.off m hl h2,h3⟩
 exact ⟨H',⟨hx,fun p hp=>by rw [hn];exact (h.rx p hp).chg c (bnew_weak m),fun p hp=>by rw [hn];exact (h.sx p hp).chg c (bnew_weak m)⟩,by rw [hn];exact hv.chg c (bnew_weak m)⟩
section
variable {W w:World} {b:Nat} {H:BH} {N:Bch} {K:List (Nat × Obj)} {R:List (Option Addr × List (List UInt8))} {S:List (Option Addr × List UInt8)}
theorem KS.addR (h:KS W w b H N K R S) {A:Option Addr} {rs:List (List UInt8)} (hr:RdRX (BF b H N.n) w A rs):KS W w b H N K ((A,rs)::R) S:=⟨h.kx,fun p hp=>by
 rcases List.mem_cons.1 hp with rfl | hp
 ·exact hr
 ·exact h.rx p hp,h.sx⟩
end
theorem wwrTo_bd {N:Bch} {lv:List Bool} {l' c' r0 fr:Int} {D:Nat} {ds:List (List UInt8)} (i:Nat):∀ j,((wwrTo N lv l' (D:Int) c' r0 fr ds j).2.D i).ps.length ≤ (N.D i).ps.length + j * D∧(wwrTo N lv l' (D:Int) c' r0 fr ds j).2.done ≤ N.done + j * D
 | 0=>by rw [Nat.zero_mul];exact ⟨Nat.le_refl _,Nat.le_refl _⟩
 | j + 1=>by
   obtain ⟨h1,h2⟩:=wwrTo_bd (N:=N) (lv:=lv) (l':=l') (c':=c') (r0:=r0) (fr:=fr) (D:=D) (ds:=ds) i j
   have e:(j + 1) * D=j * D + D:=Nat.succ_mul _ _
   rw [wwrTo]
   split
   ·omega
   ·unfold swrS
    split
    ·dsimp only;omega
    ·have e1:=swTo_pend (lv:=lv) (a:=36 + (r0 + (j:Int)).toNat) (xs:=fillL (roD (D:Int)) (roF l' (D:Int) c' (r0 + (j:Int))) (wrow l' (D:Int) c' (r0 + (j:Int)) fr ds)) (N:=(wwrTo N lv l' (D:Int) c' r0 fr ds j).2) i (roD (D:Int))
     have e2:=swTo_done (lv:=lv) (a:=36 + (r0 + (j:Int)).toNat) (xs:=fillL (roD (D:Int)) (roF l' (D:Int) c' (r0 + (j:Int))) (wrow l' (D:Int) c' (r0 + (j:Int)) fr ds)) (N:=(wwrTo N lv l' (D:Int) c' r0 fr ds j).2) (roD (D:Int))
     have e3:roD (D:Int)=D:=by unfold roD;omega
     rw [e3] at e1 e2 ⊢
     omega
set_option maxHeartbeats 3200000 in
theorem winWr:WinWr:=by
 intro W w b H N K R S h lv A m cp hm hv l d c l' d' c' k hl hd hc hl' hd' hc' hk A2 ds n2 c2 hn2 h28 hrd hps hdn
 have B2:=below2 w (.cells #[.int .i64 l,.int .i64 d,.int .i64 c] 25) (.cells #[.int .i64 l',.int .i64 d',.int .i64 c'] 25)
 have S0:=gs2_start w l d c l' d' c' 25 25 (0,0) (0,0)
 have CS:=Lib.hid (fun V=>planSpan_any l d c l' d' c' k V hl hd hc hl' hd' hc' hk)
 have CR:=Lib.hid (fun V=>planRows_any l d c l' d' c' V hl hd hc hl' hd' hc')
 have CA:=Lib.hid (fun V (hb:Below w.heap.size w V)=>wnAnyU_any A2 n2 c2 ds V hn2 ((hrd.rdr.below hb (Nat.le_refl _)).more hb.size))
 have bF:=pnF_bd l d c l' d' c' k
 have bN:=pnN_bd l d c l' d' c'
 cases hs:pnSok l d c l' d' c' k with
 | false =>
   have e1:pnF l d c l' d' c' k=0:=if_neg (by rw [hs];decide)
   have e2:pnT l d c l' d' c' k=0:=if_neg (by rw [hs];decide)
   have HW:=Lib.hid (wwrS_bad (N:=N) (lv:=lv) (show wwrB l d c l' d' c' k ds=true by unfold wwrB;rw [hs];rfl))
   rw [e1,e2] at CS
   have HK:=Lib.hid h
   generalize wwrS N lv l d c l' d' c' k ds=r at HW ⊢
   clear hs e1 e2 bF h hv hrd hps CR CA
   go_enter Tryz.func11,Tryz.ntmps11
   go_wp2_with fail
   (with_reducible refine (CS.out _).mono ?_);rintro e w1 ⟨rfl,hb⟩
   have F:=(S0.later hb).2.2.2.2.2.2
   clear hb S0 CS B2
   go_wp2_with fail
   go_ret
   exact ⟨by rw [HW.out];rfl,H,by rw [HW.out];exact HK.out.below F⟩
 | true =>
   have hgc:gCan l d c l' d' c'=true:=by
    cases hg:gCan l d c l' d' c' with
    | true=>rfl
    | false =>
      unfold pnSok pnW at hs
      rw [hg,if_neg (by decide)] at hs
      have:=of_decide_eq_true hs
      omega
   obtain ⟨Rr,Kk,wa,wb,P⟩:=pn_of hgc
   have hpos:=P.n_bd
   obtain ⟨mm,hmm⟩:∃ mm:Nat,Rr * wb=(mm:Int):=⟨(Rr * wb).toNat,by omega⟩
   have hPn:pnN l d c l' d' c'=(mm:Int):=P.n.trans hmm
   have hmb:0 ≤ (mm:Int)∧(mm:Int) ≤ 28:=by omega
   have e1:pnT l d c l' d' c' k=pnF l d c l' d' c' k + (mm:Int):=by
    unfold pnT pnF
    rw [if_pos hs,if_pos hs,Int.add_mul,Int.one_mul,hPn]
   rw [e1] at CS
   have hne:(pnF l d c l' d' c' k == pnF l d c l' d' c' k + (mm:Int))=false:=by rw [beq_eq_false_iff_ne];omega
   have hdf:pnF l d c l' d' c' k + (mm:Int) - pnF l d c l' d' c' k=(mm:Int):=by omega
   by_cases hlen:(n2:Int)=(mm:Int)
   ·have hlb:((n2:Int) != (mm:Int))=false:=by rw [hlen];exact bne_self_eq_false _
    cases h32:all32 ds with
    | false =>
      have HW:=Lib.hid (wwrS_bad (N:=N) (lv:=lv) (show wwrB l d c l' d' c' k ds=true by unfold wwrB;rw [h32];simp))
      have CA1:=CA.out
      rw [any_wnl,h32,Bool.not_false] at CA1
      replace CA1:=Lib.hid CA1
      have HK:=Lib.hid h
      generalize wwrS N lv l d c l' d' c' k ds=r at HW ⊢
      generalize pnF l d c l' d' c' k=fr at CS bF hne hdf
      have hwd:IntKind.i64.wrap (fr + (mm:Int) - fr)=(mm:Int):=by rw [hdf];exact IntWalk.i64_in _ (by omega)
      clear hs e1 h hv hrd hps CR CA h32 P hpos hmm hPn hlen hn2
      go_enter Tryz.func11,Tryz.ntmps11
      go_wp2_with fail
      (with_reducible refine (CS.out _).mono ?_);rintro e w1 ⟨rfl,hb⟩
      have F:=(S0.later hb).2.2.2.2.2.2
      clear hb S0 CS B2
      go_wp2_with fail
      (with_reducible refine (CA1.out _ F).mono ?_);rintro e w2 ⟨rfl,rfl⟩
      go_wp2_with fail
      go_ret
      exact ⟨by rw [HW.out];rfl,H,by rw [HW.out];exact HK.out.below F⟩
    | true =>
      have Hall:=Lib.hid (all32_iff.1 h32)
      obtain ⟨Rn,hRn⟩:∃ Rn:Nat,Rr=(Rn:Int):=⟨Rr.toNat,by have:=P.rows;omega⟩
      subst hRn
      have hk01:=of_decide_eq_true hs
      have hKw:=P.eK
      rw [hKw] at hk01
      have hrw:=P.rows
      have hkR0:0 ≤ k * (Rn:Int):=Int.mul_nonneg hk01.1 (by omega)
      have hk1:(k + 1) * (Rn:Int)=k * (Rn:Int) + (Rn:Int):=by rw [Int.add_mul,Int.one_mul]
      have hk16:(k + 1) * (Rn:Int) ≤ 16:=by
       have h1:(k + 1) * (Rn:Int) ≤ Kk * (Rn:Int):=Int.mul_le_mul_of_nonneg_right (by omega) (by omega)
       have e:Kk * (Rn:Int)=(Rn:Int) * Kk:=Int.mul_comm _ _
       omega
      have hf:=P.frm hk01.1 hk01.2
      have hB:wwrB l d c l' d' c' k ds=false:=by
       unfold wwrB
       rw [hs,decide_eq_false (by rw [hPn];omega),h32];rfl
      have hb8:=gOk_bd P.b
      obtain ⟨D,rfl⟩:∃ D:Nat,d'=(D:Int):=⟨d'.toNat,by omega⟩
      have HW:=Lib.hid (show wwrS N lv l d c l' (D:Int) c' k ds=if (wwrTo N lv l' (D:Int) c' (k * (Rn:Int)) (k * ((Rn:Int) * wb)) ds Rn).1 ≠ 0 then wwrTo N lv l' (D:Int) c' (k * (Rn:Int)) (k * ((Rn:Int) * wb)) ds Rn else sflS (wwrTo N lv l' (D:Int) c' (k * (Rn:Int)) (k * ((Rn:Int) * wb)) ds Rn).2 lv by
       unfold wwrS
       rw [if_neg (by rw [hB];decide),hf,P.eR,show ((Rn:Int)).toNat=Rn by omega])
      rw [hf] at CS bF hne hdf
      have Hin:=Lib.hid (show ∀ j:Nat,j < Rn→(plNums l' (D:Int) c' (k * (Rn:Int) + (j:Int))).length ≤ 7∧∀ z ∈ plNums l' (D:Int) c' (k * (Rn:Int) + (j:Int)),k * ((Rn:Int) * wb) ≤ z∧z < k * ((Rn:Int) * wb) + (n2:Int) from fun j hj=>by
       obtain ⟨t,ht⟩:∃ t:Nat,k * (Rn:Int) + (j:Int)=(t:Int):=⟨(k * (Rn:Int) + (j:Int)).toNat,by omega⟩
       rw [ht]
       have hok:=plOk_mk P.b (show (0:Int) ≤ (t:Int) by omega) (by omega)
       have hwid:=gWid_yes P.b
       refine ⟨by rw [plNums_len hok];omega,fun z hz=>?_⟩
       unfold plNums at hz
       rw [if_pos hok] at hz
       obtain ⟨q,hq,rfl⟩:=List.mem_map.1 hz
       have hq':=List.mem_range.1 hq
       rw [P.ew'] at hq'
       obtain ⟨s1,s2⟩:=P.span (j:=(q:Int)) (show k * (Rn:Int) ≤ (t:Int) by omega) (by omega) (by omega) (by omega)
       have e:(k + 1) * ((Rn:Int) * wb)=k * ((Rn:Int) * wb) + (Rn:Int) * wb:=by rw [Int.add_mul,Int.one_mul]
       rw [e] at s2
       omega)
      have CA1:=CA.out
      rw [any_wnl,h32,Bool.not_true] at CA1
      replace CA1:=Lib.hid CA1
      have CR1:=CR.out
      rw [P.eR] at CR1
      replace CR1:=Lib.hid CR1
      generalize wwrS N lv l d c l' (D:Int) c' k ds=r at HW ⊢
      generalize k * ((Rn:Int) * wb)=fr at CS bF hne hdf HW Hin
      have hwd:IntKind.i64.wrap (fr + (mm:Int) - fr)=(mm:Int):=by rw [hdf];exact IntWalk.i64_in _ (by omega)
      have k0:=(h.add (.cells #[.int .i64 l,.int .i64 d,.int .i64 c] 25 (0,0))).add (.cells #[.int .i64 l',.int .i64 (D:Int),.int .i64 c'] 25 (0,0))
      rw [show (w.alloc (.cells #[.int .i64 l,.int .i64 d,.int .i64 c] 25 (0,0))).heap.size=w.heap.size + 1 by simp] at k0
      have K0:=Lib.hid k0
      have HV0:=Lib.hid (hv.below B2)
      have HRd:=Lib.hid (hrd.below B2)
      have Hps0:=Lib.hid hps
      have Hn2:=Lib.hid hn2
      have hkb:0 ≤ k∧k < 16:=by
       have:Kk ≤ 16:=by have:=P.rk;omega
       omega
      subst hm
      clear k0 hs e1 h hv hrd hps CR CA h32 P hpos hmm hPn hlen hf hB hk01 hKw hgc bN
      go_enter Tryz.func11,Tryz.ntmps11
      go_wp2_with fail
      (with_reducible refine (CS.out _).mono ?_);rintro e w1 ⟨rfl,hb⟩
      have F:=Lib.hid (S0.later hb).2.2.2.2.2.2
      have K1:=Lib.hid (K0.out.below hb)
      have V1:=Lib.hid (HV0.out.below hb)
      have R1:=Lib.hid (HRd.out.below hb)
      clear hb S0 CS B2 K0 HV0 HRd
      go_wp2_with fail
      (with_reducible refine (CA1.out _ F.out).mono ?_);rintro e w2 ⟨rfl,rfl⟩
      obtain ⟨g1,g2,g3⟩:=K1.out.gat (g:=w.heap.size) (l:=l) (d:=d) (c:=c) (t:=25) (f:=(0,0)) (by simp)
      obtain ⟨g4,g5,g6⟩:=K1.out.gat (g:=w.heap.size + 1) (l:=l') (d:=(D:Int)) (c:=c') (t:=25) (f:=(0,0)) (by simp)
      clear CA1
      go_wp2_with fail
      (with_reducible refine (CR1.out _).mono ?_);rintro e w3 ⟨rfl,hb⟩
      have K3:=Lib.hid ((K1.out.addR R1.out).below hb)
      have V3:=Lib.hid (V1.out.below hb)
      clear hb CR1 K1 V1 R1 g1 g2 g3 g4 g5 g6
      have Hdn0:=Lib.hid hdn
      obtain ⟨gb,hgb⟩:∃ gb,w.heap.size + 1=gb:=⟨_,rfl⟩
      rw [hgb] at K3 ⊢
      clear hdn F hgb
      go_wp2_with fail
      go_loopw [16] (fun i wr=>∃ (j:Nat) (M:Bch) (H':BH),j ≤ Rn∧i=.int .i64 (k * (Rn:Int) + (j:Int))∧wwrTo N lv l' (D:Int) c' (k * (Rn:Int)) fr ds j=(0,M)∧KS W wr b H' M ((gb,Obj.cells #[.int .i64 l',.int .i64 (D:Int),.int .i64 c'] 25 (0,0))::(w.heap.size,Obj.cells #[.int .i64 l,.int .i64 d,.int .i64 c] 25 (0,0))::K) ((A2,ds)::R) S∧RdOX (BF b H' M.n) wr A lv) (fun i _=>((k + 1) * (Rn:Int) - intOf i).toNat)
      case atStart=>exact ⟨0,N,H,Nat.zero_le _,by rw [show ((0:Nat):Int)=0 from rfl,Int.add_zero],rfl,K3.out,V3.out⟩
      case round =>
       obtain ⟨j,M,H',hj,rfl,hT,hks,hvv⟩:=hrel
       have hMn:M.n=N.n:=by
        have:=wwrTo_n (N:=N) (lv:=lv) (l':=l') (d':=(D:Int)) (c':=c') (r0:=k * (Rn:Int)) (fr:=fr) (ds:=ds) j
        rw [hT] at this;exact this
       have Q00:=Lib.hid hks
       have V00:=Lib.hid hvv
       clear K3 V3
       by_cases hlt:j < Rn
       ·have i1:k * (Rn:Int) + (j:Int) < (k + 1) * (Rn:Int):=by omega
        obtain ⟨hpl,hpz⟩:=Hin.out j hlt
        have hbd:=fun i=>wwrTo_bd (N:=N) (lv:=lv) (l':=l') (c':=c') (r0:=k * (Rn:Int)) (fr:=fr) (D:=D) (ds:=ds) i j
        rw [hT] at hbd
        have hjD:j * D ≤ 4 * 8:=Nat.mul_le_mul (by omega) (by omega)
        have Hps:=Lib.hid (show ∀ i,i < M.n→(M.D i).ps.length ≤ 1999990 from fun i hi=>by
         have h1:=Hps0.out i (by omega)
         have h2:=(hbd i).1
         dsimp only at h2
         omega)
        have Hdn:=Lib.hid (show M.done ≤ 1999990 by
         have h1:=Hdn0.out
         have h2:=(hbd 0).2
         dsimp only at h2
         omega)
        have hgo:=wwrTo_goes (N:=N) (lv:=lv) (l':=l') (d':=(D:Int)) (c':=c') (r0:=k * (Rn:Int)) (fr:=fr) (ds:=ds) (j:=j) (by rw [hT])
        rw [hT] at hgo
        dsimp only at hgo
        have hn2':=swrS_n' M lv l' (D:Int) c' (k * (Rn:Int) + (j:Int)) (wrow l' (D:Int) c' (k * (Rn:Int) + (j:Int)) fr ds)
        obtain ⟨ee,M2,hsw⟩:∃ (ee:Int) (M2:Bch),swrS M lv l' (D:Int) c' (k * (Rn:Int) + (j:Int)) (wrow l' (D:Int) c' (k * (Rn:Int) + (j:Int)) fr ds)=(ee,M2):=⟨_,_,rfl⟩
        rw [hsw] at hgo hn2'
        have HSW:=Lib.hid hsw
        have HGO:=Lib.hid hgo
        have HM2n:Hid (M2.n=M.n):=hn2'
        have CI:=Lib.hid (fun V (hb:Below wr.heap.size wr V)=>winRow_any A2 ds n2 c2 l' (D:Int) c' (k * (Rn:Int) + (j:Int)) fr V Hn2.out h28 (((hks.rd (List.mem_cons_self ..)).below hb (Nat.le_refl _)).more hb.size) hl' hd' hc' (by omega) (by omega) hpz)
        have HPL:=Lib.hid hpl
        clear hT hks hvv hbd hgo hsw hn2' hpl hpz hjD hMn
        have Q0:=Lib.hid (Q00.out.below (Below.refl _ wr).drew)
        have V0:=Lib.hid (V00.out.below (Below.refl _ wr).drew)
        clear Q00 V00
        go_upto_region 8 with fail
        refine wp_region_noPanic (region_ord 11 [] (fun V=>GAt V gb l' (D:Int) c') (by kernel_rfl) (by kernel_rfl) (fun _ _ _ _ _ h=>h) fun R=>?_)
        change anyI _ _ _ _ _ _ 11 _ _ wr.drew
        have HS0:=Lib.hid (show (fun V=>GAt V gb l' (D:Int) c') wr.drew from Q0.out.gat (g:=gb) (l:=l') (d:=(D:Int)) (c:=c') (t:=25) (f:=(0,0)) (by simp))
        refine' anyI_take R 0 rfl (v:=?_) (by kernel_rfl) (by rfl) (fun V hV=>?hy) HS0.out ?_
        case hy=>((try dsimp only at hV); obtain ⟨y0,y1,y2⟩:=hV;go_simp;try with_reducible rfl)
        try simp only [Act.put,List.getElem_toArray,List.getElem_cons_succ,List.getElem_cons_zero,List.setIfInBounds_toArray,List.set_cons_zero,List.set_cons_succ]
        refine' anyI_take R 1 rfl (v:=?_) (by kernel_rfl) (by rfl) (fun V hV=>?hy) HS0.out ?_
        case hy=>((try dsimp only at hV); obtain ⟨y0,y1,y2⟩:=hV;go_simp;try with_reducible rfl)
        try simp only [Act.put,List.getElem_toArray,List.getElem_cons_succ,List.getElem_cons_zero,List.setIfInBounds_toArray,List.set_cons_zero,List.set_cons_succ]
        refine' anyI_take R 2 rfl (v:=?_) (by kernel_rfl) (by rfl) (fun V hV=>?hy) HS0.out ?_
        case hy=>((try dsimp only at hV); obtain ⟨y0,y1,y2⟩:=hV;go_simp;try with_reducible rfl)
        try simp only [Act.put,List.getElem_toArray,List.getElem_cons_succ,List.getElem_cons_zero,List.setIfInBounds_toArray,List.set_cons_zero,List.set_cons_succ]
        refine' anyI_take R 3 rfl (v:=?_) (by kernel_rfl) (by rfl) (fun V hV=>?hy) HS0.out ?_
        case hy=>((try dsimp only at hV); obtain ⟨y0,y1,y2⟩:=hV;go_simp;try with_reducible rfl)
        try simp only [Act.put,List.getElem_toArray,List.getElem_cons_succ,List.getElem_cons_zero,List.setIfInBounds_toArray,List.set_cons_zero,List.set_cons_succ]
        refine' anyI_take R 4 rfl (v:=?_) (by kernel_rfl) (by rfl) (fun V hV=>?hy) HS0.out ?_
        case hy=>((try dsimp only at hV); obtain ⟨y0,y1,y2⟩:=hV;go_simp;try with_reducible rfl)
        try simp only [Act.put,List.getElem_toArray,List.getElem_cons_succ,List.getElem_cons_zero,List.setIfInBounds_toArray,List.set_cons_zero,List.set_cons_succ]
        refine' anyI_take R 5 rfl (v:=?_) (by kernel_rfl) (by rfl) (fun V hV=>?hy) HS0.out ?_
        case hy=>((try dsimp only at hV); obtain ⟨y0,y1,y2⟩:=hV;go_simp;try with_reducible rfl)
        try simp only [Act.put,List.getElem_toArray,List.getElem_cons_succ,List.getElem_cons_zero,List.setIfInBounds_toArray,List.set_cons_zero,List.set_cons_succ]
        refine' anyI_take R 6 rfl (v:=?_) (by kernel_rfl) (by rfl) (fun V hV=>?hy) HS0.out ?_
        case hy=>((try dsimp only at hV); obtain ⟨y0,y1,y2⟩:=hV;go_simp;try with_reducible rfl)
        try simp only [Act.put,List.getElem_toArray,List.getElem_cons_succ,List.getElem_cons_zero,List.setIfInBounds_toArray,List.set_cons_zero,List.set_cons_succ]
        refine' anyI_take R 7 rfl (v:=?_) (by kernel_rfl) (by rfl) (fun V hV=>?hy) HS0.out ?_
        case hy=>((try dsimp only at hV); obtain ⟨y0,y1,y2⟩:=hV;go_simp;try with_reducible rfl)
        try simp only [Act.put,List.getElem_toArray,List.getElem_cons_succ,List.getElem_cons_zero,List.setIfInBounds_toArray,List.set_cons_zero,List.set_cons_succ]
        refine anyI_one 8 (by kernel_rfl) rfl ?_
        try simp only [List.getElem_toArray,List.getElem_cons_succ,List.getElem_cons_zero]
        refine opE_step ?_
        rw [if_pos (by rfl)]
        go_simp
        (with_reducible refine (CI.out _ (Below.refl _ _).drew).mono ?_)
        rintro e v1 ⟨A3,c3,rfl,hr3,hb3⟩
        have hp7:=HPL.out
        have Q1:=Lib.hid (Q0.out.below hb3)
        have V1:=Lib.hid (V0.out.below hb3)
        have HR3:=Lib.hid hr3
        replace HS0:=Lib.hid (show (fun V=>GAt V gb l' (D:Int) c') v1 from Q1.out.gat (g:=gb) (l:=l') (d:=(D:Int)) (c:=c') (t:=25) (f:=(0,0)) (by simp))
        clear hr3 hb3
        try dsimp only
        refine ⟨HS0.out,?_⟩
        try simp only [Act.put,List.getElem_toArray,List.getElem_cons_succ,List.getElem_cons_zero,List.setIfInBounds_toArray,List.set_cons_zero,List.set_cons_succ]
        refine anyI_one 9 (by kernel_rfl) rfl ?_
        try simp only [List.getElem_toArray,List.getElem_cons_succ,List.getElem_cons_zero]
        refine opE_step ?_
        rw [if_pos (by rfl)]
        go_simp
        have CW:=stpWrite_any W v1 b H' M Q1.out.bp lv A lv.length cp rfl V1.out A3 _ _ c3 (wrow_len _ _ _ _ _ _) (by omega) HR3.out l' (D:Int) c' (k * (Rn:Int) + (j:Int)) hl' hd' hc' (by omega) Hps.out Hdn.out
        rw [HSW.out] at CW
        (with_reducible refine CW.mono ?_)
        rintro e v2 ⟨rfl,ht⟩
        obtain ⟨H2,q2,vv2⟩:=Q1.out.bcO V1.out ht HM2n.out
        have Q2:=Lib.hid q2
        have V2:=Lib.hid vv2
        replace HS0:=Lib.hid (show (fun V=>GAt V gb l' (D:Int) c') v2 from Q2.out.gat (g:=gb) (l:=l') (d:=(D:Int)) (c:=c') (t:=25) (f:=(0,0)) (by simp))
        clear q2 vv2 ht CW Q1 V1 HR3
        try dsimp only
        refine ⟨HS0.out,?_⟩
        try simp only [Act.put,List.getElem_toArray,List.getElem_cons_succ,List.getElem_cons_zero,List.setIfInBounds_toArray,List.set_cons_zero,List.set_cons_succ]
        refine' anyI_take R 10 rfl (v:=?_) (by kernel_rfl) (by rfl) (fun V hV=>?hy) HS0.out ?_
        case hy=>((try dsimp only at hV); obtain ⟨y0,y1,y2⟩:=hV;go_simp;try with_reducible rfl)
        try simp only [Act.put,List.getElem_toArray,List.getElem_cons_succ,List.getElem_cons_zero,List.setIfInBounds_toArray,List.set_cons_zero,List.set_cons_succ]
        refine anyI_tail (by kernel_rfl) ?_
        try simp only [List.drop_succ_cons,List.drop_zero]
        clear R
        go_wp2_with fail
        refine NoPanic.normal ?_
        by_cases e0:ee=0
        ·subst e0
         clear CI HSW Hps Hdn HPL HW
         go_wp2_with fail
         go_roundw
         case rel=>exact ⟨j + 1,M2,H2,by omega,by rw [Int.natCast_add,Int.add_assoc];rfl,HGO.out,Q2.out,V2.out⟩
         case measure=>simp [intOf];omega
        ·have Hr:=Lib.hid (show r=(ee,M2) by
           rw [HW.out,wwrTo_stop (j:=j + 1) (by rw [HGO.out];exact e0) Rn (by omega),HGO.out,if_pos e0])
         have en:(ee != 0)=true:=by rw [bne_iff_ne];exact e0
         clear CI HSW Hps Hdn HPL HW HGO e0
         go_wp2_with fail
         go_ret
         exact ⟨by rw [Hr.out];rfl,H2,by rw [Hr.out];exact Q2.out.less (fun p hp=>by simp [hp]) (fun p hp=>List.mem_cons_of_mem _ hp) (fun p hp=>hp)⟩
       ·obtain rfl:j=Rn:=by omega
        have i1:¬ k * (j:Int) + (j:Int) < (k + 1) * (j:Int):=by omega
        have Hr:=Lib.hid (show r=sflS M lv by rw [HW.out,hT,if_neg (fun h=>h rfl)])
        have CF:=Lib.hid (ks_flush hks lv A lv.length cp rfl hvv)
        clear hT hks hvv HW
        go_wp2_with fail
        (with_reducible refine CF.out.mono ?_);rintro e w9 ⟨rfl,H9,k9⟩
        have K9:=Lib.hid k9
        clear k9 CF
        go_wp2_with fail
        go_ret
        exact ⟨by rw [Hr.out];rfl,H9,by rw [Hr.out];exact K9.out.less (fun p hp=>by simp [hp]) (fun p hp=>List.mem_cons_of_mem _ hp) (fun p hp=>hp)⟩
   ·have HW:=Lib.hid (wwrS_bad (N:=N) (lv:=lv) (show wwrB l d c l' d' c' k ds=true by unfold wwrB;rw [hPn,decide_eq_true (by omega),Bool.or_true,Bool.true_or]))
    have hlb:((n2:Int) != (mm:Int))=true:=by rw [bne_iff_ne];exact hlen
    have HK:=Lib.hid h
    generalize wwrS N lv l d c l' d' c' k ds=r at HW ⊢
    generalize pnF l d c l' d' c' k=fr at CS bF hne hdf
    have hwd:IntKind.i64.wrap (fr + (mm:Int) - fr)=(mm:Int):=by rw [hdf];exact IntWalk.i64_in _ (by omega)
    clear hs e1 h hv hrd hps CR CA P hpos hmm hPn hn2 hlen
    go_enter Tryz.func11,Tryz.ntmps11
    go_wp2_with fail
    (with_reducible refine (CS.out _).mono ?_);rintro e w1 ⟨rfl,hb⟩
    have F:=(S0.later hb).2.2.2.2.2.2
    clear hb S0 CS B2
    go_wp2_with fail
    go_ret
    exact ⟨by rw [HW.out];rfl,H,by rw [HW.out];exact HK.out.below F⟩
theorem winP:WinP:=⟨winRd,winWr⟩
end Go.Proofs.YtldfoadildaljaaGreat
end
