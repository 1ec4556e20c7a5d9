/- Texts put together: WinCrashP, WinMovesP. -/
import Derived.Test.YtldfoadildaljaaGreatWmbq
import Derived.Test.YtldfoadildaljaaGreatWmbp
import Derived.Test.YtldfoadildaljaaGreatWmaj
section
set_option maxRecDepth 20000
set_option linter.unusedVariables false
set_option linter.unusedSimpArgs false
namespace Go.Proofs.YtldfoadildaljaaGreat
structure WcI (N:Bch) (D':Nat) (l:Int) (D:Nat) (c l' c':Int) (rs:Nat→List (List UInt8)) (s:Int):Prop where
 mv:Mv N D' (liveL 0 D') l (D:Int) c l' (D':Int) c' rs s
 f:∀ i,i < D'→(N.D i).f=false
section
variable {N:Bch} {l c l' c' R Wn wa wb:Int} {D D':Nat} {rs:Nat→List (List UInt8)} {k:Int}
theorem WcI.srv {s:Int} (h:WcI N D' l D c l' c' rs s) {i:Nat} (hi:i < D'):srvD N (liveL 0 D') i=true:=srvD_mk (by rw [h.mv.wg.n];exact hi) (live0 hi) (h.f i hi)
theorem Fld.wc {zs:List Int} (h:Fld N D' D (rowL l c D (roW l (D:Int)) zs) 16 0):WcI N D' l D c l' c' (fun t=>datL zs t (roW l (D:Int))) 0:=⟨⟨h.gd.wg,fun t ht i hi hs=>by
 have hlt:¬ (t:Int) < 0:=by omega
 have hi':(i:Int) < (D:Int):=by
  have:(i:Int) < rg _ _ _ t:=hi
  rw [rg_ge hlt] at this
  exact this
 rw [h.all (by omega) ht]
 unfold flR mvR RG.D RG.L RG.C
 dsimp only
 rw [rg_ge hlt,rg_ge hlt,rg_ge hlt,if_neg hlt,show roD (D:Int)=D by unfold roD;omega]
 rfl⟩,h.gd.f⟩
end
end Go.Proofs.YtldfoadildaljaaGreat
end
section
set_option maxRecDepth 20000
set_option linter.unusedVariables false
set_option linter.unusedSimpArgs false
namespace Go.Proofs.YtldfoadildaljaaGreat
open Go.RowKit
structure WmI (N:Bch) (D':Nat) (lv:List Bool) (l:Int) (D:Nat) (c l' c':Int) (rs:Nat→List (List UInt8)) (g s:Int):Prop where
 mv:Mv N D' lv l (D:Int) c l' (D':Int) c' rs s
 sv:∀ i:Nat,i < D'→(i:Int) ≠ g→srvD N lv i=true
section
variable {N:Bch} {lv:List Bool} {l c l' c' R Wn wa wb g:Int} {D D':Nat} {rs:Nat→List (List UInt8)} {k:Int}
theorem WmI.ps {s:Int} (h:WmI N D' lv l D c l' c' rs g s):∀ i,i < N.n→(N.D i).ps.length ≤ 1999000:=fun i hi=>by
 rw [h.mv.wg.ps i (by rw [← h.mv.wg.n];exact hi)];exact Nat.zero_le _
theorem WmI.cnt {s:Int} (h:WmI N D' lv l D c l' c' rs g s) (hDD:D ≤ D'):cntB D (fun i=>!srvD N lv i) ≤ 1:=by
 have h1:cntB D (fun i=>!srvD N lv i) ≤ cntB D (fun i=>decide (i=(if g < 0 then D' else g.toNat))):=by
  unfold cntB
  refine len_le_map (f:=id) (List.nodup_range.filter _) (fun a _ b _ e=>e) fun i hi=>?_
  obtain ⟨h1,h2⟩:=List.mem_filter.1 hi
  have h1':=List.mem_range.1 h1
  refine List.mem_filter.2 ⟨h1,?_⟩
  show decide (i=_)=true
  by_cases e:(i:Int)=g
  ·refine decide_eq_true ?_
   split <;> omega
  ·rw [h.sv i (by omega) e] at h2;cases h2
 exact Nat.le_trans h1 (cntB_one_le _ _)
theorem WmI.read (P:Pn l (D:Int) c l' (D':Int) c' R Wn wa wb) (hDD:D ≤ D') (h:WmI N D' lv l D c l' c' rs g (k * R)) (k0:0 ≤ k) (k1:k < Wn) (hr:∀ t,t < 16→(rs t).length=roW l (D:Int)∧∀ x ∈ rs t,x.length=32) :
    wrdS N lv l (D:Int) c l' (D':Int) c' k=(0,wlist (gCap l (D:Int) c) (valOf l (D:Int) c rs) (k * (R * wb)) (R * wb).toNat):=by
 refine (h.mv.read P k0 k1 hr).2 ?_
 have hb:=gOk_bd P.a
 have e:=h.cnt hDD
 rw [Int.toNat_natCast];omega
theorem WmI.step (P:Pn l (D:Int) c l' (D':Int) c' R Wn wa wb) (h:WmI N D' lv l D c l' c' rs g (k * R)) (k0:0 ≤ k) (k1:k < Wn) (hr:∀ t,t < 16→(rs t).length=roW l (D:Int)∧∀ x ∈ rs t,x.length=32) :
    ∃ N',wwrS N lv l (D:Int) c l' (D':Int) c' k (wlist (gCap l (D:Int) c) (valOf l (D:Int) c rs) (k * (R * wb)) (R * wb).toNat)=(0,N')∧WmI N' D' lv l D c l' c' rs g ((k + 1) * R)∧N'.done ≤ N.done + 32:=by
 obtain ⟨e,h1,h2⟩:=h.mv.write P k0 k1 hr
 have hd:=wwrS_done (N:=N) (lv:=lv) (l:=l) (d:=(D:Int)) (c:=c) (l':=l') (d':=(D':Int)) (c':=c') (k:=k) (ds:=wlist (gCap l (D:Int) c) (valOf l (D:Int) c rs) (k * (R * wb)) (R * wb).toNat)
 have hb:=gOk_bd P.b
 have hrw:=P.rows
 rw [P.eR] at hd
 have e2:R.toNat * roD (D':Int) ≤ 4 * 8:=Nat.mul_le_mul (by omega) (by unfold roD;omega)
 generalize wwrS N lv l (D:Int) c l' (D':Int) c' k (wlist (gCap l (D:Int) c) (valOf l (D:Int) c rs) (k * (R * wb)) (R * wb).toNat)=r at e h1 h2 hd
 obtain ⟨x,N'⟩:=r
 dsimp only at e h1 h2 hd
 subst e
 exact ⟨N',rfl,⟨h1,fun i hi hg=>(h2.srv h.mv.wg.n i).trans (h.sv i hi hg)⟩,by omega⟩
theorem WmI.told (h:WmI N D' lv l D c l' c' rs g 16) (hg:gOk l' (D':Int) c'=true) {t i:Nat} (ht:t < 16) (hi:i < D') (hne:(i:Int) ≠ g) :
    N.readE (i:Int) ((36 + t:Nat):Int)=0∧N.read (i:Int) ((36 + t:Nat):Int)=(fillL D' (roF l' (D':Int) c' (t:Int)) ((plNums l' (D':Int) c' (t:Int)).map (upTo (gCap l (D:Int) c) (valOf l (D:Int) c rs)))).getD i []:=by
 have hs:=h.sv i hi hne
 obtain ⟨s1,s2,s3⟩:=srvD_yes hs
 obtain ⟨e1,e2⟩:=Bch.read_ok (N:=N) (d:=i) (k:=36 + t) s1 (by omega) s3 h.mv.wg.dn
 refine ⟨e1,e2.trans ?_⟩
 have hlt:(t:Int) < 16:=by omega
 have:=h.mv.st t ht i (by show (i:Int) < rg _ _ _ t;rw [rg_lt hlt];show (i:Int) < (D':Int);omega) hs
 rw [this]
 unfold flR mvR RG.D RG.L RG.C
 dsimp only
 rw [rg_lt hlt,rg_lt hlt,rg_lt hlt,if_pos hlt,show roD (D':Int)=D' by unfold roD;omega]
end
theorem Fld.wm {N:Bch} {l c l' c':Int} {D D':Nat} {zs:List Int} (h:Fld N D' D (rowL l c D (roW l (D:Int)) zs) 16 0):WmI N D' (liveL 0 D') l D c l' c' (fun t=>datL zs t (roW l (D:Int))) (-1) 0∧N.done=0 :=
 ⟨⟨h.wc.mv,fun i hi _=>(h.wc (l':=l') (c':=c')).srv hi⟩,h.gd.done⟩
theorem WmI.lose {N:Bch} {l c l' c':Int} {D D' k:Nat} {rs:Nat→List (List UInt8)} (h:WmI N D' (liveL 0 D') l D c l' c' rs (-1) 0) (hk:k < D'):WmI (N.fail (k:Int)) D' ((liveL 0 D').set k false) l D c l' c' rs (k:Int) 0:=by
 have hn:k < N.n:=by rw [h.mv.wg.n];exact hk
 have hsv:∀ i,srvD (N.fail (k:Int)) ((liveL 0 D').set k false) i=true→i ≠ k∧srvD N (liveL 0 D') i=true:=fun i hs=>by
  obtain ⟨s1,s2,s3⟩:=srvD_yes hs
  rw [fail_is] at s1
  have hik:i ≠ k:=fun e=>by
   rw [e,List.getD_eq_getElem?_getD,List.getElem?_set_self (by rw [liveL_len];exact hk)] at s2
   cases s2
  rw [fail_D hn,if_neg hik] at s3
  rw [List.getD_eq_getElem?_getD,List.getElem?_set_ne (by omega),← List.getD_eq_getElem?_getD] at s2
  exact ⟨hik,srvD_mk s1 s2 s3⟩
 have hw:=h.mv.wg
 refine ⟨⟨⟨fail_is.trans hw.n,fail_up.trans hw.dn,?_,fun i hi=>?_,fun i hi=>?_⟩,fun t ht i hi hs=>?_⟩,fun i hi hne=>?_⟩
 ·rw [← hw.lf];unfold Bch.fail;split <;> rfl
 ·rw [fail_D hn];split
  ·exact Dsk.failed_ok
  ·exact hw.ok i hi
 ·rw [fail_D hn];split
  ·rfl
  ·exact hw.ps i hi
 ·obtain ⟨hik,hs'⟩:=hsv i hs
  rw [fail_D hn,if_neg hik]
  exact h.mv.st t ht i hi hs'
 ·have hik:i ≠ k:=fun e=>hne (by rw [e])
  have hs:=h.sv i hi (by omega)
  obtain ⟨s1,s2,s3⟩:=srvD_yes hs
  refine srvD_mk (by rw [fail_is];exact s1) ?_ (by rw [fail_D hn,if_neg hik];exact s3)
  rw [List.getD_eq_getElem?_getD,List.getElem?_set_ne (by omega),← List.getD_eq_getElem?_getD]
  exact s2
theorem zeroRowV (w:World):(zeroValue 48).run Tryz.prog w=.ok (.slice none 0 0) w:=by kernel_rfl
theorem MapV.look {w:World} {B n:Nat} {F:Int→Option Value} (h:MapV w B n F) (x:Int) (hx:-9223372036854775808 ≤ x∧x ≤ 9223372036854775807):(Instr.lookup 56 (.map (some B)) (.int .i64 x) false).run Tryz.prog w=.ok ((F x).getD (.slice none 0 0)) w:=by
 obtain ⟨D,ho,hr⟩:=h
 obtain ⟨v,ps,hrun,hv⟩:=ho.lookup keyI Tryz.underlying56 (zeroRowV w) (show heldV (.slice none 0 0)=some (.held (.slice none 0 0),[]) from rfl) (keyI_of x (WalkArith.wf_i64 hx))
 obtain ⟨h1,h2⟩:=hr x
 rw [hrun]
 cases hF:F x with
 | none =>
   rw [hF] at h1
   rw [Maps.atKey_of_not_has h1] at hv
   unfold heldV at hv
   injection hv with hv
   injection hv with hv _
   injection hv with hv
   rw [hv];rfl
 | some u =>
   rw [h2 u hF] at hv
   unfold heldV at hv
   injection hv with hv
   injection hv with hv _
   injection hv with hv
   rw [hv];rfl
structure WmF (l:Int) (D:Nat) (c:Int) (W:Nat) (zs:List Int) (F:Int→Option Value) (S:List (Option Addr × List UInt8)) (r k:Nat):Prop where
 is:∀ z v,F z=some v→0 ≤ z∧z < gCap l (D:Int) c∧∃ A cc,v=.slice A 32 cc∧(A,valOf l (D:Int) c (fun t=>datL zs t W) z) ∈ S
 has:∀ ρ q:Nat,ρ < 16→q < W→(ρ < r∨(ρ=r∧q < k))→∃ v,F (plN l (D:Int) c (ρ:Int) (q:Int))=some v
section
variable {l c:Int} {D W r k:Nat} {zs:List Int} {F:Int→Option Value} {S S':List (Option Addr × List UInt8)}
theorem WmF.nil:WmF l D c W zs (fun _=>none) S 0 0:=⟨fun z v h=>(by cases h),fun ρ q _ _ h=>by omega⟩
theorem WmF.mono (h:WmF l D c W zs F S r k) (hs:∀ p ∈ S,p ∈ S'):WmF l D c W zs F S' r k:=⟨fun z v hz=>by
 obtain ⟨h1,h2,A,cc,h3,h4⟩:=h.is z v hz
 exact ⟨h1,h2,A,cc,h3,hs _ h4⟩,h.has⟩
theorem WmF.next (h:WmF l D c W zs F S r W):WmF l D c W zs F S (r + 1) 0:=⟨h.is,fun ρ q h1 h2 h3=>h.has ρ q h1 h2 (by omega)⟩
theorem WmF.put {n:Int} {F0:Nat} (gr:Gr n l c (r:Int) D F0 W) (hr:r < 16) (h:WmF l D c W zs F S r k) (hk:k < W) {A:Option Addr} {cc:Nat} (hm:(A,(datL zs r W).getD k []) ∈ S):WmF l D c W zs (putF F (plN l (D:Int) c (r:Int) (k:Int)) (.slice A 32 cc)) S r (k + 1):=by
 have hwd:=gr.wd
 rw [gWid_yes (plOk_yes gr.ok).1] at hwd
 have hd:=plDok_mk (k:=(k:Int)) gr.ok (by omega) (by omega)
 obtain ⟨n1,n2,_,_⟩:=num_row hd
 refine ⟨fun z v hz=>?_,fun ρ q h1 h2 h3=>?_⟩
 ·unfold putF at hz
  split at hz
  ·next e =>
   injection hz with hz
   subst hz
   rw [e]
   exact ⟨n1,n2,A,cc,rfl,by rw [val_num hd];exact hm⟩
  ·exact h.is z v hz
 ·unfold putF
  split
  ·exact ⟨_,rfl⟩
  ·next e =>
   refine h.has ρ q h1 h2 ?_
   rcases h3 with h3 | ⟨h3,h4⟩
   ·exact .inl h3
   ·refine .inr ⟨h3,?_⟩
    by_cases e2:q=k
    ·exact absurd (by rw [h3,e2]) e
    ·omega
theorem WmF.all (h:WmF l D c (roW l (D:Int)) zs F S 16 0) (hg:gOk l (D:Int) c=true) {z:Int} (h0:0 ≤ z):(z < gCap l (D:Int) c∧∃ A cc,F z=some (.slice A 32 cc)∧(A,valOf l (D:Int) c (fun t=>datL zs t (roW l (D:Int))) z) ∈ S)∨(¬ z < gCap l (D:Int) c∧F z=none):=by
 by_cases hc:z < gCap l (D:Int) c
 ·left
  obtain ⟨ρ,q,h1,h2,_,_,h3,_⟩:=num_at hg h0 hc
  obtain ⟨v,hv⟩:=h.has ρ q h1 h2 (.inl h1)
  rw [h3] at hv
  obtain ⟨_,_,A,cc,e,hm⟩:=h.is z v hv
  exact ⟨hc,A,cc,by rw [hv,e],hm⟩
 ·right
  refine ⟨hc,?_⟩
  cases hF:F z with
  | none=>rfl
  | some v=>exact absurd (h.is z v hF).2.1 hc
end
end Go.Proofs.YtldfoadildaljaaGreat
end
