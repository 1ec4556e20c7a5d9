/- Texts put together: Erase, Solve. -/
import Derived.Test.YtldfoadildaljaaGreatWmam
import Derived.Test.YtldfoadildaljaaGreatWmah
section
namespace Go.Proofs.YtldfoadildaljaaGreat
open Go.RowKit
theorem byP_any (A A':Option Addr) (p:List UInt8) (all:List (List UInt8)) (n c n' c':Nat) (w:World) (hn:n=p.length) (hn':all.length=n') (hp:RdB w w.heap.size A p) (hr:RdR w w.heap.size A' all) :
    Calls Tryz.prog 116 #[.slice A n c,.slice A' n' c'] w fun e w'=>∃ v,e=.returned v∧OwB 5 w' w.heap.size v (byPB p all)∧Below w.heap.size w w':=by
 subst hn
 have H:Hid (byPB p all=pB [p,pB all]):=rfl
 go_enter Tryz.func116,Tryz.ntmps116
 go_wp2_with fail
 refine (p_any A' all n' c' w hn' hr).mono ?_
 rintro e w1 ⟨v1,rfl,ho1,hb1⟩
 obtain ⟨A1,c1,rfl,_,hr1⟩:=ho1.rd
 have hs1:=hb1.size
 go_wp2_with fail
 refine (add_any A A1 p (pB all) p.length _ c c1 w1.heap.size w1 rfl rfl ((hp.below hb1 (Nat.le_refl _)).more hs1) hr1 (Nat.le_refl _)).mono ?_
 rintro e w2 ⟨v2,rfl,ho2,hb2⟩
 rw [← H.out] at ho2
 go_wp2
 go_ret
 exact ⟨v2,rfl,ho2.le hs1,hb1.trans (hb2.mono hs1)⟩
theorem byQ_any (A A':Option Addr) (q:List UInt8) (all:List (List UInt8)) (n c n' c' k:Nat) (w:World) (hn:n=q.length) (hn':all.length=n') (hk:k ≤ 1000000) (hp:RdB w w.heap.size A q) (hr:RdR w w.heap.size A' all) :
    Calls Tryz.prog 117 #[.slice A n c,.slice A' n' c',.int .i64 (k:Int)] w fun e w'=>∃ v,e=.returned v∧OwB 5 w' w.heap.size v (byQB q all k)∧Below w.heap.size w w':=by
 subst hn
 have H:Hid (byQB q all k=scaleL (pB [q,qB all]) (gpow (-(k:Int)))):=rfl
 have CP:=Lib.hid (fun W=>pow_any (-(k:Int)) (by omega) W)
 have hf:=gpow_lt (-(k:Int))
 generalize gpow (-(k:Int))=f at H CP hf
 go_enter Tryz.func117,Tryz.ntmps117
 go_wp2_with fail
 refine (q_any A' all n' c' w hn' hr).mono ?_
 rintro e w1 ⟨v1,rfl,ho1,hb1⟩
 obtain ⟨A1,c1,rfl,_,hr1⟩:=ho1.rd
 have hs1:=hb1.size
 go_wp2_with fail
 refine (add_any A A1 q (qB all) q.length _ c c1 w1.heap.size w1 rfl rfl ((hp.below hb1 (Nat.le_refl _)).more hs1) hr1 (Nat.le_refl _)).mono ?_
 rintro e w2 ⟨v2,rfl,ho2,hb2⟩
 obtain ⟨A2,c2,rfl,_,hr2⟩:=ho2.rd
 have hs2:=hb2.size
 go_wp2_with fail
 refine (CP.out _).mono ?_
 rintro e w3 ⟨rfl,rfl⟩
 go_wp2_with fail
 refine (scale_any A2 _ _ c2 f w3 rfl hf hr2).mono ?_
 rintro e w4 ⟨v4,rfl,ho4,hb4⟩
 rw [← H.out] at ho4
 go_wp2
 go_ret
 exact ⟨v4,rfl,ho4.le (by omega),(hb1.trans (hb2.mono hs1)).trans (hb4.mono (by omega))⟩
theorem xor_gf {f g:Nat} (hf:f < 256) (hg:g < 256):bits .xor .u8 (f:Int) (g:Int)=((f ^^^ g:Nat):Int):=u8_xor_nat _ _ hf hg
set_option maxHeartbeats 800000 in
theorem byBoth_any (A A' A'':Option Addr) (p q:List UInt8) (all:List (List UInt8)) (n c n' c' m d i j:Nat) (w:World) (hn:n=p.length) (hn':n'=q.length) (hm:all.length=m) (hi:i ≤ 1000000) (hj:j ≤ 1000000) (hp:RdB w w.heap.size A p) (hq:RdB w w.heap.size A' q) (hr:RdR w w.heap.size A'' all) :
    Calls Tryz.prog 115 #[.slice A n c,.slice A' n' c',.slice A'' m d,.int .i64 (i:Int),.int .i64 (j:Int)] w fun e w'=>∃ v u,e=.returned (.tuple #[v,u])∧OwB 5 w' w.heap.size v (bothA p q all i j)∧OwB 5 w' w.heap.size u (bothB p q all i j)∧Below w.heap.size w w':=by
 subst hn hn'
 have HA:Hid (bothA p q all i j=pB [pB [p,pB all],bothB p q all i j]):=rfl
 have HB:Hid (bothB p q all i j=scaleL (pB [pB [q,qB all],scaleL (pB [p,pB all]) (gpow i)]) (ginv (gpow i ^^^ gpow j))):=rfl
 have CI:=Lib.hid (fun W=>pow_any (i:Int) (by omega) W)
 have CJ:=Lib.hid (fun W=>pow_any (j:Int) (by omega) W)
 have hf:=gpow_lt (i:Int)
 have hg:=gpow_lt (j:Int)
 generalize gpow (i:Int)=f at HB CI hf
 generalize gpow (j:Int)=g at HB CJ hg
 have ex:=xor_gf hf hg
 have CV:=Lib.hid (fun W=>inv_any (f ^^^ g) (xor_lt8 hf hg) W)
 have hv:=ginv_lt (f ^^^ g)
 generalize ginv (f ^^^ g)=iv at HB CV hv
 go_enter Tryz.func115,Tryz.ntmps115
 go_wp2_with fail
 refine (CI.out _).mono ?_
 rintro e w1 ⟨rfl,rfl⟩
 go_wp2_with fail
 refine (CJ.out _).mono ?_
 rintro e w2 ⟨rfl,rfl⟩
 go_wp2_with fail
 refine (p_any A'' all m d w2 hm hr).mono ?_
 rintro e w3 ⟨v3,rfl,ho3,hb3⟩
 obtain ⟨A3,c3,rfl,_,hr3⟩:=ho3.rd
 have hs3:=hb3.size
 go_wp2_with fail
 refine (add_any A A3 p (pB all) p.length _ c c3 w3.heap.size w3 rfl rfl ((hp.below hb3 (Nat.le_refl _)).more hs3) hr3 (Nat.le_refl _)).mono ?_
 rintro e w4 ⟨v4,rfl,ho4,hb4⟩
 have B4:=hb3.trans (hb4.mono hs3)
 have hs4:=B4.size
 obtain ⟨A4,c4,rfl,_,_⟩:=ho4.rd
 go_wp2_with fail
 refine (q_any A'' all m d w4 hm ((hr.below B4 (Nat.le_refl _)).more hs4)).mono ?_
 rintro e w5 ⟨v5,rfl,ho5,hb5⟩
 have B5:=B4.trans (hb5.mono hs4)
 have hs5:=B5.size
 obtain ⟨A5,c5,rfl,_,hr5⟩:=ho5.rd
 go_wp2_with fail
 refine (add_any A' A5 q (qB all) q.length _ c' c5 w5.heap.size w5 rfl rfl ((hq.below B5 (Nat.le_refl _)).more hs5) hr5 (Nat.le_refl _)).mono ?_
 rintro e w6 ⟨v6,rfl,ho6,hb6⟩
 have B6:=B5.trans (hb6.mono hs5)
 have hs6:=B6.size
 obtain ⟨A6,c6,rfl,_,hr6⟩:=ho6.rd
 have hoP:=(ho4.below hb5).below hb6
 go_wp2_with fail
 refine (scale_any A4 _ _ c4 f w6 rfl hf hoP.rdS.1).mono ?_
 rintro e w7 ⟨v7,rfl,ho7,hb7⟩
 have B7:=B6.trans (hb7.mono hs6)
 have hs7:=B7.size
 obtain ⟨A7,c7,rfl,_,hr7⟩:=ho7.rd
 go_wp2_with fail
 refine (add_any A6 A7 _ _ _ _ c6 c7 w7.heap.size w7 rfl rfl ((hr6.below hb7 (Nat.le_refl _)).more hb7.size) hr7 (Nat.le_refl _)).mono ?_
 rintro e w8 ⟨v8,rfl,ho8,hb8⟩
 have B8:=B7.trans (hb8.mono hs7)
 have hs8:=B8.size
 obtain ⟨A8,c8,rfl,_,hr8⟩:=ho8.rd
 go_wp2_with fail
 refine (CV.out _).mono ?_
 rintro e w9 ⟨rfl,rfl⟩
 go_wp2_with fail
 refine (scale_any A8 _ _ c8 iv w9 rfl hv hr8).mono ?_
 rintro e w10 ⟨v10,rfl,ho10,hb10⟩
 have B10:=B8.trans (hb10.mono hs8)
 have hs10:=B10.size
 rw [← HB.out] at ho10
 have hoP2:=((hoP.below hb7).below hb8).below hb10
 obtain ⟨A10,c10,rfl,_,hr10⟩:=ho10.rd
 go_wp2_with fail
 refine (add_any A4 A10 _ _ _ _ c4 c10 w10.heap.size w10 rfl rfl hoP2.rdS.1 hr10 (Nat.le_refl _)).mono ?_
 rintro e w11 ⟨v11,rfl,ho11,hb11⟩
 rw [← HA.out] at ho11
 have B11:=B10.trans (hb11.mono hs10)
 go_wp2
 go_ret2
 exact ⟨_,_,rfl,ho11.le (by omega),(ho10.le (by omega)).below hb11,B11⟩
end Go.Proofs.YtldfoadildaljaaGreat
end
section
namespace Go.Proofs.YtldfoadildaljaaGreat
open Go.RowKit
def SolveNo (w:World) (e:Ending) (w':World):Prop:=e=.returned (.tuple #[.slice none 0 0,.bool false])∧Below w.heap.size w w'
def SolveYes (w:World) (l:List (List UInt8)) (e:Ending) (w':World):Prop:=∃ g c,e=.returned (.tuple #[.slice (some ⟨g,0,none⟩) l.length c,.bool true])∧OwR w' w.heap.size g l.length c l∧Below w.heap.size w w'
def SolveR (w:World) (o:Option (List (List UInt8))) (e:Ending) (w':World):Prop :=
 match o with
 | none=>SolveNo w e w'
 | some l=>SolveYes w l e w'
theorem OwR.le {w:World} {base base' g n cap:Nat} {rs:List (List UInt8)} (h:OwR w base g n cap rs) (hB:base' ≤ base):OwR w base' g n cap rs:=by
 obtain ⟨h0,hc,hg,xs,h1,h2⟩:=h
 refine ⟨h0,hc,by omega,xs,⟨h1.1,?_⟩,h2.1,fun k hk=>?_⟩
 ·rcases h1.2 with h3 | ⟨g',cap',cur,h3,h4,r⟩
  ·exact .inl h3
  ·exact .inr ⟨g',cap',cur,h3,by omega,r⟩
 ·obtain ⟨A,c,h3,h4,h5⟩:=h2.2 k hk
  refine ⟨A,c,h3,⟨h4.1,fun h0=>?_⟩,h5⟩
  obtain ⟨b,off,e,hb,hl,hcc⟩:=h4.2 h0
  exact ⟨b,off,e,hb,by omega,hcc⟩
theorem toldB_p {p q:List UInt8} {all:List (List UInt8)} {i:Nat} (h:p.length ≠ 0):toldB p q all [i]=all.set i (byPB p all):=by
 show all.set i (if p.length ≠ 0 then byPB p all else byQB q all i)=_
 rw [if_pos h]
theorem toldB_q {p q:List UInt8} {all:List (List UInt8)} {i:Nat} (h:p.length=0):toldB p q all [i]=all.set i (byQB q all i):=by
 show all.set i (if p.length ≠ 0 then byPB p all else byQB q all i)=_
 rw [if_neg (fun e=>e h)]
theorem set_other {W:World} {g j:Nat} {v:Value} {p:Addr} (h:p.block ≠ g):(W.setCell ⟨g,j,none⟩ v).cell? p=W.cell? p :=
 World.cell?_of_block (w:=W) (Below.heap_setCell _ _ _ _ h)
theorem missB_two_le (p q:List UInt8):(missB [p,q]).length ≤ 2:=missTo_len [p,q] 2
theorem rdr_pair {w:World} {A A':Option Addr} {p q:List UInt8} {c c':Nat} (h:RdB w w.heap.size A p) (h':RdB w w.heap.size A' q) :
    RdR (w.alloc (.cells #[.slice A p.length c,.slice A' q.length c'] 48)) (w.alloc (.cells #[.slice A p.length c,.slice A' q.length c'] 48)).heap.size (some ⟨w.heap.size,0,none⟩) [p,q] :=
 rdr_block2 (hp_new _ _ _ rfl) rfl rfl ((h.below (below1 w _) (Nat.le_refl _)).more (by simp)) ((h'.below (below1 w _) (Nat.le_refl _)).more (by simp)) (Nat.le_refl _)
theorem size_of_can {N:Nat} {p q:List UInt8} {rs:List (List UInt8)} {M:Nat} (ha:askB N p q rs=true) (hc:canB p q rs=true) (hp:p.length ≤ M) (hq:q.length ≤ M) (hr:∀ k,k < rs.length→(rs.getD k []).length ≤ M):N ≤ M:=by
 unfold askB at ha
 unfold canB at hc
 simp only [Bool.and_eq_true,decide_eq_true_eq] at ha hc
 obtain ⟨hN,h1,h2⟩:=ha
 obtain ⟨h3,h4,h5⟩:=hc
 rcases Nat.eq_zero_or_pos (missB rs).length with h0 | h0
 ·have hm:¬ (rs.getD 0 []).length=0:=fun h=>by
    have:0 ∈ missB rs:=missTo_mem.2 ⟨h4,h⟩
    rw [List.eq_nil_of_length_eq_zero h0] at this
    simp at this
  rcases sizedB_iff.1 h2 0 h4 with h | h
  ·exact absurd h hm
  ·rw [← h];exact hr 0 h4
 ·rcases sizedB_iff.1 h1 0 (by simp) with hp0 | hp0
  ·rcases sizedB_iff.1 h1 1 (by simp) with hq0 | hq0
   ·exfalso
    have e:missB [p,q]=[0,1]:=by
     show missTo [p,q] (0 + 1 + 1)=[0,1]
     rw [missTo_succ,missTo_succ,if_pos hq0,if_pos hp0]
     rfl
    rw [e] at h3
    simp only [List.length_cons,List.length_nil] at h3
    omega
   ·have:q.length=N:=hq0
    omega
  ·have:p.length=N:=hp0
   omega
set_option maxRecDepth 100000 in
set_option maxHeartbeats 1600000 in
theorem solve_any (A A' A'':Option Addr) (p q:List UInt8) (rs:List (List UInt8)) (np cp nq cq n c N:Nat) (w:World) (hnp:np=p.length) (hnq:nq=q.length) (hn:rs.length=n) (hn8:n ≤ 1000000)
    (hp:RdB w w.heap.size A p) (hq:RdB w w.heap.size A' q) (hr:RdR w w.heap.size A'' rs) :
    Calls Tryz.prog 109 #[.int .i64 (N:Int),.slice A np cp,.slice A' nq cq,.slice A'' n c] w (SolveR w (solveB N p q rs)):=by
 subst hnp hnq hn
 have Hsz:=Lib.hid (fun ha hc=>@size_of_can N p q rs 140737488355328 ha hc hp.1 hq.1 (fun k hk=>by
  obtain ⟨b,off,_,_,hcc⟩:=hr.2 (by omega)
  obtain ⟨_,_,_,h2⟩:=hcc k hk
  exact h2.1))
 have Hso:Hid (solveB N p q rs=if (askB N p q rs && canB p q rs)=true then some (toldB p q (filledB N rs) (missB rs)) else none):=rfl
 have Hask:Hid (askB N p q rs=(decide (1 ≤ N) && (sizedB N [p,q] && sizedB N rs))):=rfl
 have Hcan:Hid (canB p q rs=(decide ((missB rs).length ≤ 2 - (missB [p,q]).length) && (decide (0 < rs.length) && decide (rs.length ≤ 8)))):=rfl
 have hm2:=missB_two_le p q
 by_cases hN:N < 1
 ·have Hs2:=Lib.hid (show solveB N p q rs=none by rw [Hso.out,Hask.out,show decide (1 ≤ N)=false by simpa using hN];rfl)
  rw [Hs2.out]
  go_enter Tryz.func109,Tryz.ntmps109
  go_wp2
  go_ret2
  exact ⟨rfl,Below.refl _ _⟩
 ·have hr0:=rdr_pair (c:=cp) (c':=cq) hp hq
  by_cases hz1:sizedB N [p,q]=true
  ·by_cases hz2:sizedB N rs=true
   ·go_enter Tryz.func109,Tryz.ntmps109
    go_wp2_with fail
    refine (sized_any _ [p,q] 2 2 N _ rfl hr0).mono ?_
    rintro e w1 ⟨rfl,rfl⟩
    rw [hz1]
    go_wp2_with fail
    have B1:=below1 w (.cells #[.slice A p.length cp,.slice A' q.length cq] 48)
    have hs1:=B1.size
    refine (sized_any A'' rs _ c N _ rfl ((hr.below B1 (Nat.le_refl _)).more hs1)).mono ?_
    rintro e w2 ⟨rfl,rfl⟩
    rw [hz2]
    have Ha:=Lib.hid (show askB N p q rs=true by rw [Hask.out,hz1,hz2,show decide (1 ≤ N)=true by simp;omega];rfl)
    generalize w.alloc (.cells #[.slice A p.length cp,.slice A' q.length cq] 48)=w1 at B1 hs1 ⊢
    clear hr0 hz1 hz2 hN
    go_wp2_with fail
    refine (missing_any A'' rs _ c w1 rfl hn8 ((hr.below B1 (Nat.le_refl _)).more hs1)).mono ?_
    rintro e w2 ⟨v2,rfl,hog,hb2⟩
    have B2:=B1.trans (hb2.mono hs1)
    have hs2:=B2.size
    obtain ⟨A2,c2,rfl,_⟩:=hog.rd
    go_wp2_with fail
    refine (missing_any _ [p,q] 2 2 _ rfl (by decide) (rdr_pair (c:=cp) (c':=cq) ((hp.below B2 (Nat.le_refl _)).more hs2) ((hq.below B2 (Nat.le_refl _)).more hs2))).mono ?_
    rintro e w3 ⟨v3,rfl,hos,hb3⟩
    obtain ⟨A3,c3,rfl,_⟩:=hos.rd
    have hog3:=(hog.below (below1 w2 (.cells #[.slice A p.length cp,.slice A' q.length cq] 48))).below hb3
    have B3:=(B2.alloc hs2 (.cells #[.slice A p.length cp,.slice A' q.length cq] 48)).trans (hb3.mono (by simp;omega))
    have hs3:=B3.size
    clear hog hos hb2 hb3 B1 B2
    have Hml:Hid (missB rs=missB rs):=rfl
    obtain ⟨ms,hms⟩:∃ ms,ms=missB rs:=⟨_,rfl⟩
    obtain ⟨sm,hsm⟩:∃ sm,sm=(missB [p,q]).length:=⟨_,rfl⟩
    have Hms:=Lib.hid (show missB rs=ms from hms.symm)
    rw [← hms] at hog3 ⊢
    rw [← hsm] at hm2 ⊢
    have Hcan2:=Lib.hid (show canB p q rs=(decide (ms.length ≤ 2 - sm) && (decide (0 < rs.length) && decide (rs.length ≤ 8))) by rw [Hcan.out,hms,hsm])
    have Hlt:=Lib.hid (show ∀ i ∈ ms,i < rs.length∧(rs.getD i []).length=0 from fun i hi=>missTo_lt i (by rw [hms] at hi;exact hi))
    have Hso2:=Lib.hid (missTo_sorted rs rs.length)
    rw [show missTo rs rs.length=ms from hms.symm] at Hso2
    clear hms hsm Hcan Hml
    obtain ⟨L,hL⟩:∃ L,L=ms.length:=⟨_,rfl⟩
    rw [← hL] at Hcan2 ⊢
    have HL:=Lib.hid hL
    clear hL
    by_cases hc1:L ≤ 2 - sm
    ·by_cases hc2:0 < rs.length
     ·by_cases hc3:rs.length ≤ 8
      ·have Hc:=Lib.hid (show canB p q rs=true by rw [Hcan2.out,decide_eq_true hc1,decide_eq_true hc2,decide_eq_true hc3];rfl)
       have e1:((rs.length:Int) == 0)=false:=by rw [beq_eq_false_iff_ne];omega
       have hNl:=Hsz.out Ha.out Hc.out
       have Hs2:=Lib.hid (show solveB N p q rs=some (toldB p q (filledB N rs) ms) by rw [Hso.out,Ha.out,Hc.out,Hms.out];rfl)
       go_wp2_with fail
       refine (filled_any A'' rs _ c N w3 rfl hn8 hNl ((hr.below B3 (Nat.le_refl _)).more hs3)).mono ?_
       rintro e w4 ⟨g,rfl,hall,hb4⟩
       have B4:=B3.trans (hb4.mono hs3)
       have hs4:=B4.size
       have hall4:=hall.le hs3
       have hgg:=hall.2.2.1
       have hg4:=hall.lt
       have hfl:=filledB_len N rs
       generalize filledB N rs=all at hall4 Hs2 hfl
       clear hall B3
       rcases ms with _ | ⟨i,_ | ⟨j,_ | ⟨k,ms⟩⟩⟩
       ·obtain rfl:L=0:=HL.out
        go_wp2
        go_ret2
        rw [Hs2.out,← hfl]
        rw [← hfl] at hall4
        exact ⟨g,_,rfl,hall4,B4⟩
       ·obtain rfl:L=1:=HL.out
        obtain ⟨hi,_⟩:=Hlt.out i (by simp)
        obtain ⟨A5,c5,hv5,hr5⟩:=hog3.rd
        injection hv5 with hv5 _ hv6
        subst hv5 hv6
        obtain ⟨g2,rfl,_,hg3,hcell⟩:=hr5 (by simp)
        have h0:w4.cell? ⟨g2,0,none⟩=some (.int .i64 (i:Int)):=(hb4.cell (p:=⟨g2,0,none⟩) hg3).trans (hcell 0 (by simp))
        have hg2:g2 < w4.heap.size:=by omega
        have hne:(⟨g2,0,none⟩:Addr).block ≠ g:=by show g2 ≠ g;omega
        have i0:(0:Int) ≤ (i:Int):=by omega
        have i1:(i:Int) < (rs.length:Int):=by omega
        obtain ⟨Ao,co,h1,_,h2⟩:=hall4.cell i hi
        by_cases hp0:p.length=0
        ·have e2:((p.length:Int) != 0)=false:=by rw [hp0];rfl
         have Ht:=Lib.hid (show toldB p q all [i]=all.set i (byQB q all i) from toldB_q hp0)
         have CB:Hid (∀ W,Below w4.heap.size w4 W→Calls Tryz.prog 117 #[.slice A' q.length cq,.slice (some ⟨g,0,none⟩) rs.length rs.length,.int .i64 (i:Int)] W fun e w'=>∃ v,e=.returned v∧OwB 5 w' W.heap.size v (byQB q all i)∧Below W.heap.size W w') :=
          Lib.hid fun W hb=>byQ_any A' _ q all _ cq _ _ i W rfl hfl (by omega) (((hq.below B4 (Nat.le_refl _)).more hs4).below hb (Nat.le_refl _) |>.more hb.size) (((hall4.rdr (by omega)).below hb (Nat.le_refl _)).more hb.size)
         generalize byQB q all i=b at CB Ht
         generalize (all.getD i []).length=Lo at h1
         clear hcell hr5
         go_wp2_with fail
         go_region_held3 (fun W=>W.cell? ⟨g2,0,none⟩=some (.int .i64 (i:Int))) (first | assumption | (rw [set_other hne];assumption))
          (first
           |(go_at_call 117
             (with_reducible refine (CB.out _ ?_).mono ?_)
             exact (Below.refl _ _).drew
             rintro e w5 ⟨v5,rfl,ho5,hb5⟩
             obtain ⟨A6,c6,rfl,_,_⟩:=ho5.rd
             have h0':=(hb5.cell (p:=⟨g2,0,none⟩) hg2).trans h0
             have h1':=(hb5.cell (p:=⟨g,i,none⟩) hg4).trans h1
             have hb5':=((Below.refl w4.heap.size w4).drew).trans (hb5.mono (Nat.le_refl _))
             have hall5:=hall4.below hb5'
             obtain ⟨_,_,_,_,h2'⟩:=hall5.cell i hi
             have hset:=hall5.set i (c:=c6) (OwB.rdbf (ho5.le hs4)) (ho5.newer hg4)
             dsimp only))
         go_wp2
         go_ret2
         rw [Hs2.out,Ht.out]
         refine ⟨g,rs.length,by rw [List.length_set,hfl];rfl,by rw [List.length_set,hfl];exact hset,(B4.trans (hb5'.mono hs4)).setCell (p:=⟨g,i,none⟩) (by show w.heap.size ≤ g;omega) _⟩
        ·have e2:((p.length:Int) != 0)=true:=by rw [bne_iff_ne];omega
         have Ht:=Lib.hid (show toldB p q all [i]=all.set i (byPB p all) from toldB_p hp0)
         have CB:Hid (∀ W,Below w4.heap.size w4 W→Calls Tryz.prog 116 #[.slice A p.length cp,.slice (some ⟨g,0,none⟩) rs.length rs.length] W fun e w'=>∃ v,e=.returned v∧OwB 5 w' W.heap.size v (byPB p all)∧Below W.heap.size W w') :=
          Lib.hid fun W hb=>byP_any A _ p all _ cp _ _ W rfl hfl (((hp.below B4 (Nat.le_refl _)).more hs4).below hb (Nat.le_refl _) |>.more hb.size) (((hall4.rdr (by omega)).below hb (Nat.le_refl _)).more hb.size)
         generalize byPB p all=b at CB Ht
         generalize (all.getD i []).length=Lo at h1
         clear hcell hr5
         go_wp2_with fail
         go_region_held3 (fun W=>W.cell? ⟨g2,0,none⟩=some (.int .i64 (i:Int))) (first | assumption | (rw [set_other hne];assumption))
          (first
           |(go_at_call 116
             (with_reducible refine (CB.out _ ?_).mono ?_)
             exact (Below.refl _ _).drew
             rintro e w5 ⟨v5,rfl,ho5,hb5⟩
             have h0':=(hb5.cell (p:=⟨g2,0,none⟩) hg2).trans h0
             have h1':=(hb5.cell (p:=⟨g,i,none⟩) hg4).trans h1
             have hb5':=((Below.refl w4.heap.size w4).drew).trans (hb5.mono (Nat.le_refl _))
             have hall5:=hall4.below hb5'
             obtain ⟨_,_,_,_,h2'⟩:=hall5.cell i hi
             obtain ⟨A6,c6,rfl,_,_⟩:=ho5.rd
             have hset:=hall5.set i (c:=c6) (OwB.rdbf (ho5.le hs4)) (ho5.newer hg4)
             dsimp only))
         go_wp2
         go_ret2
         rw [Hs2.out,Ht.out]
         refine ⟨g,rs.length,by rw [List.length_set,hfl];rfl,by rw [List.length_set,hfl];exact hset,(B4.trans (hb5'.mono hs4)).setCell (p:=⟨g,i,none⟩) (by show w.heap.size ≤ g;omega) _⟩
       ·obtain rfl:L=2:=HL.out
        obtain ⟨hi,_⟩:=Hlt.out i (by simp)
        obtain ⟨hj,_⟩:=Hlt.out j (by simp)
        have hij:i < j:=by
         have:=Hso2.out
         simp at this
         exact this
        obtain ⟨A5,c5,hv5,hr5⟩:=hog3.rd
        injection hv5 with hv5 _ hv6
        subst hv5 hv6
        obtain ⟨g2,rfl,_,hg3,hcell⟩:=hr5 (by simp)
        have h0:w4.cell? ⟨g2,0,none⟩=some (.int .i64 (i:Int)):=(hb4.cell (p:=⟨g2,0,none⟩) hg3).trans (hcell 0 (by simp))
        have h01:w4.cell? ⟨g2,1,none⟩=some (.int .i64 (j:Int)):=(hb4.cell (p:=⟨g2,1,none⟩) hg3).trans (hcell 1 (by simp))
        have i0:(0:Int) ≤ (i:Int):=by omega
        have i1:(i:Int) < (rs.length:Int):=by omega
        have j0:(0:Int) ≤ (j:Int):=by omega
        have j1:(j:Int) < (rs.length:Int):=by omega
        have CB:Hid (∀ W,Below w4.heap.size w4 W→Calls Tryz.prog 115 #[.slice A p.length cp,.slice A' q.length cq,.slice (some ⟨g,0,none⟩) rs.length rs.length,.int .i64 (i:Int),.int .i64 (j:Int)] W fun e w'=>∃ v u,e=.returned (.tuple #[v,u])∧OwB 5 w' W.heap.size v (bothA p q all i j)∧OwB 5 w' W.heap.size u (bothB p q all i j)∧Below W.heap.size W w') :=
         Lib.hid fun W hb=>byBoth_any A A' _ p q all _ cp _ cq _ _ i j W rfl rfl hfl (by omega) (by omega) (((hp.below B4 (Nat.le_refl _)).more hs4).below hb (Nat.le_refl _) |>.more hb.size) (((hq.below B4 (Nat.le_refl _)).more hs4).below hb (Nat.le_refl _) |>.more hb.size) (((hall4.rdr (by omega)).below hb (Nat.le_refl _)).more hb.size)
        have Ht:Hid (toldB p q all [i,j]=(all.set i (bothA p q all i j)).set j (bothB p q all i j)):=rfl
        generalize bothA p q all i j=a at CB Ht
        generalize bothB p q all i j=b at CB Ht
        clear hcell hr5
        go_wp2_with fail
        go_quiet (fail)
        go_wp2_with fail
        refine (CB.out _ (belowN _ _ _)).mono ?_
        rintro e w5 ⟨v5,u5,rfl,hov,hou,hb5⟩
        have hb5':=(belowN w4.heap.size w4 nq).trans (hb5.mono (Nat.le_refl _))
        have hall5:=hall4.below hb5'
        obtain ⟨A6,c6,rfl,_,_⟩:=hov.rd
        obtain ⟨A7,c7,rfl,_,_⟩:=hou.rd
        obtain ⟨Ao,co,h1,_,h2⟩:=hall5.cell i hi
        have hset1:=hall5.set i (c:=c6) (OwB.rdbf (hov.le hs4)) (hov.newer hg4)
        obtain ⟨Ap,cq2,h3,_,h4⟩:=hset1.cell j hj
        have hb6:RdBF w.heap.size (w5.setCell ⟨g,i,none⟩ (.slice A6 a.length c6)) A7 b:=(hou.rdbf.keep (by simp) fun p hp _=>set_other (by have:w4.heap.size ≤ p.block:=hp;omega)).le hs4
        have hset2:=hset1.set j (c:=c7) hb6 (hou.newer hg4)
        go_wp2
        go_ret2
        rw [Hs2.out,Ht.out]
        refine ⟨g,rs.length,by rw [List.length_set,List.length_set,hfl];rfl,by rw [List.length_set,List.length_set,hfl];exact hset2,((B4.trans (hb5'.mono hs4)).setCell (p:=⟨g,i,none⟩) (by show w.heap.size ≤ g;omega) _).setCell (p:=⟨g,j,none⟩) (by show w.heap.size ≤ g;omega) _⟩
       ·exfalso
        have:L=ms.length + 1 + 1 + 1:=HL.out
        omega
      ·have Hs2:=Lib.hid (show solveB N p q rs=none by rw [Hso.out,Ha.out,Hcan2.out,decide_eq_false hc3,Bool.and_false,Bool.and_false];rfl)
       have e1:((rs.length:Int) == 0)=false:=by rw [beq_eq_false_iff_ne];omega
       go_wp2
       go_ret2
       rw [Hs2.out]
       exact ⟨rfl,B3⟩
     ·have Hs2:=Lib.hid (show solveB N p q rs=none by rw [Hso.out,Ha.out,Hcan2.out,decide_eq_false hc2,Bool.false_and,Bool.and_false];rfl)
      have e1:((rs.length:Int) == 0)=true:=by rw [beq_iff_eq];omega
      go_wp2
      go_ret2
      rw [Hs2.out]
      exact ⟨rfl,B3⟩
    ·have Hs2:=Lib.hid (show solveB N p q rs=none by rw [Hso.out,Ha.out,Hcan2.out,decide_eq_false hc1];rfl)
     go_wp2
     go_ret2
     rw [Hs2.out]
     exact ⟨rfl,B3⟩
   ·have B1:=below1 w (.cells #[.slice A p.length cp,.slice A' q.length cq] 48)
    have hz2':sizedB N rs=false:=by simpa using hz2
    have Hs2:=Lib.hid (show solveB N p q rs=none by rw [Hso.out,Hask.out,hz2',Bool.and_false,Bool.and_false];rfl)
    rw [Hs2.out]
    clear hz2
    go_enter Tryz.func109,Tryz.ntmps109
    go_wp2_with fail
    refine (sized_any _ [p,q] 2 2 N _ rfl hr0).mono ?_
    rintro e w1 ⟨rfl,rfl⟩
    rw [hz1]
    go_wp2_with fail
    refine (sized_any A'' rs _ c N _ rfl ((hr.below B1 (Nat.le_refl _)).more B1.size)).mono ?_
    rintro e w2 ⟨rfl,rfl⟩
    rw [hz2']
    go_wp2
    go_ret2
    exact ⟨rfl,B1⟩
  ·have B1:=below1 w (.cells #[.slice A p.length cp,.slice A' q.length cq] 48)
   have hz1':sizedB N [p,q]=false:=by simpa using hz1
   have Hs2:=Lib.hid (show solveB N p q rs=none by rw [Hso.out,Hask.out,hz1',Bool.false_and,Bool.and_false];rfl)
   rw [Hs2.out]
   clear hz1
   go_enter Tryz.func109,Tryz.ntmps109
   go_wp2_with fail
   refine (sized_any _ [p,q] 2 2 N _ rfl hr0).mono ?_
   rintro e w1 ⟨rfl,rfl⟩
   rw [hz1']
   go_wp2
   go_ret2
   exact ⟨rfl,B1⟩
end Go.Proofs.YtldfoadildaljaaGreat
end
