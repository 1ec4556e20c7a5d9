/- Texts put together: RdX, EachFl, Kx, Ks. -/
import Derived.Test.YtldfoadildaljaaGreatWmay
import Derived.Test.YtldfoadildaljaaGreatWmam
import Derived.Test.YtldfoadildaljaaGreatWmas
section
set_option linter.unusedVariables false
set_option linter.unusedSimpArgs false
namespace Go.Proofs.YtldfoadildaljaaGreat
open Go.RowKit
def RdBX (F:Nat→Prop) (w:World) (A:Option Addr) (bs:List UInt8):Prop :=
 bs.length ≤ 140737488355328∧(0 < bs.length→∃ b off,A=some ⟨b,off,none⟩∧b < w.heap.size∧¬ F b∧∀ k,k < bs.length→w.cell? ⟨b,off + k,none⟩=some (.int .u8 ((bs.getD k 0).toNat:Int)))
def RdRX (F:Nat→Prop) (w:World) (A:Option Addr) (rs:List (List UInt8)):Prop :=
 rs.length ≤ 140737488355328∧(0 < rs.length→∃ b off,A=some ⟨b,off,none⟩∧b < w.heap.size∧¬ F b∧∀ k,k < rs.length→∃ A' c,w.cell? ⟨b,off + k,none⟩=some (.slice A' (rs.getD k []).length c)∧RdBX F w A' (rs.getD k []))
section
variable {F F':Nat→Prop} {w w':World} {A:Option Addr} {bs:List UInt8} {rs:List (List UInt8)}
theorem RdBX.rdb (h:RdBX F w A bs):RdB w w.heap.size A bs :=
 ⟨h.1,fun h0=>by
  obtain ⟨b,off,e,hb,_,hc⟩:=h.2 h0
  exact ⟨b,off,e,hb,hc⟩⟩
theorem RdRX.rdr (h:RdRX F w A rs):RdR w w.heap.size A rs :=
 ⟨h.1,fun h0=>by
  obtain ⟨b,off,e,hb,_,hc⟩:=h.2 h0
  refine ⟨b,off,e,hb,fun k hk=>?_⟩
  obtain ⟨A',c,h1,h2⟩:=hc k hk
  exact ⟨A',c,h1,h2.rdb⟩⟩
theorem RdBX.keep (h:RdBX F w A bs) (hz:w.heap.size ≤ w'.heap.size) (hk:∀ p:Addr,¬ F p.block→p.block < w.heap.size→w'.cell? p=w.cell? p) (hF:∀ k,k < w.heap.size→F' k→F k):RdBX F' w' A bs :=
 ⟨h.1,fun h0=>by
  obtain ⟨b,off,e,hb,hl,hc⟩:=h.2 h0
  exact ⟨b,off,e,by omega,fun q=>hl (hF b hb q),fun k hk'=>(hk ⟨b,off + k,none⟩ hl hb).trans (hc k hk')⟩⟩
theorem RdRX.keep (h:RdRX F w A rs) (hz:w.heap.size ≤ w'.heap.size) (hk:∀ p:Addr,¬ F p.block→p.block < w.heap.size→w'.cell? p=w.cell? p) (hF:∀ k,k < w.heap.size→F' k→F k):RdRX F' w' A rs :=
 ⟨h.1,fun h0=>by
  obtain ⟨b,off,e,hb,hl,hc⟩:=h.2 h0
  refine ⟨b,off,e,by omega,fun q=>hl (hF b hb q),fun k hk'=>?_⟩
  obtain ⟨A',c,h1,h2⟩:=hc k hk'
  exact ⟨A',c,(hk ⟨b,off + k,none⟩ hl hb).trans h1,h2.keep hz hk hF⟩⟩
theorem RdBX.below (h:RdBX F w A bs) (hb:Below w.heap.size w w'):RdBX F w' A bs:=h.keep hb.size (fun _ _ hp=>hb.cell hp) fun _ _ q=>q
theorem RdRX.below (h:RdRX F w A rs) (hb:Below w.heap.size w w'):RdRX F w' A rs:=h.keep hb.size (fun _ _ hp=>hb.cell hp) fun _ _ q=>q
theorem chg_cell {F:Nat→Prop} {w w':World} (hc:Chg F w w') (p:Addr) (hF:¬ F p.block) (hp:p.block < w.heap.size):w'.cell? p=w.cell? p:=World.cell?_of_block (hc.block p.block hp hF)
theorem RdBX.chg (h:RdBX F w A bs) (hc:Chg F w w') (hF:∀ k,k < w.heap.size→F' k→F k):RdBX F' w' A bs:=h.keep hc.size (fun p q hp=>chg_cell hc p q hp) hF
theorem RdRX.chg (h:RdRX F w A rs) (hc:Chg F w w') (hF:∀ k,k < w.heap.size→F' k→F k):RdRX F' w' A rs:=h.keep hc.size (fun p q hp=>chg_cell hc p q hp) hF
theorem RdBF.rdbx {lo:Nat} (h:RdBF lo w A bs) (hF:∀ k,k < w.heap.size→lo ≤ k→¬ F k):RdBX F w A bs :=
 ⟨h.1,fun h0=>by
  obtain ⟨b,off,e,hb,hl,hc⟩:=h.2 h0
  exact ⟨b,off,e,hb,hF b hb hl,hc⟩⟩
theorem RdF.rdrx {lo:Nat} (h:RdF lo w A rs) (hF:∀ k,k < w.heap.size→lo ≤ k→¬ F k):RdRX F w A rs :=
 ⟨h.1,fun h0=>by
  obtain ⟨b,off,e,hb,hl,hc⟩:=h.2 h0
  refine ⟨b,off,e,hb,hF b hb hl,fun k hk=>?_⟩
  obtain ⟨A',c,h1,h2⟩:=hc k hk
  exact ⟨A',c,h1,h2.rdbx hF⟩⟩
theorem RdRX.at (h:RdRX F w A rs) {k:Nat} (hk:k < rs.length):∃ b off A' c,A=some ⟨b,off,none⟩∧w.cell? ⟨b,off + k,none⟩=some (.slice A' (rs.getD k []).length c)∧RdBX F w A' (rs.getD k []):=by
 obtain ⟨b,off,e,_,_,hc⟩:=h.2 (by omega)
 obtain ⟨A',c,h1,h2⟩:=hc k hk
 exact ⟨b,off,A',c,e,h1,h2⟩
end
theorem bnew_weak {w:World} {b n:Nat} {H H':BH} (hm:BNew w b H H' n):∀ k,k < w.heap.size→BF b H' n k→BF b H n k:=fun k hk e=>by
 rcases hm k e with h | h
 ·exact h
 ·omega
def RdOX (F:Nat→Prop) (w:World) (A:Option Addr) (lv:List Bool):Prop :=
 lv.length ≤ 9223372036854775807∧(0 < lv.length→∃ b off,A=some ⟨b,off,none⟩∧b < w.heap.size∧¬ F b∧∀ k,k < lv.length→w.cell? ⟨b,off + k,none⟩=some (.bool (lv.getD k false)))
section
variable {F F':Nat→Prop} {w w':World} {A:Option Addr} {lv:List Bool}
theorem RdOX.rdo (h:RdOX F w A lv):RdO w w.heap.size A lv :=
 ⟨h.1,fun h0=>by
  obtain ⟨b,off,e,hb,_,hc⟩:=h.2 h0
  exact ⟨b,off,e,hb,hc⟩⟩
theorem RdOX.keep (h:RdOX F w A lv) (hz:w.heap.size ≤ w'.heap.size) (hk:∀ p:Addr,¬ F p.block→p.block < w.heap.size→w'.cell? p=w.cell? p) (hF:∀ k,k < w.heap.size→F' k→F k):RdOX F' w' A lv :=
 ⟨h.1,fun h0=>by
  obtain ⟨b,off,e,hb,hl,hc⟩:=h.2 h0
  exact ⟨b,off,e,by omega,fun q=>hl (hF b hb q),fun k hk'=>(hk ⟨b,off + k,none⟩ hl hb).trans (hc k hk')⟩⟩
theorem RdOX.below (h:RdOX F w A lv) (hb:Below w.heap.size w w'):RdOX F w' A lv:=h.keep hb.size (fun _ _ hp=>hb.cell hp) fun _ _ q=>q
theorem RdOX.chg (h:RdOX F w A lv) (hc:Chg F w w') (hF:∀ k,k < w.heap.size→F' k→F k):RdOX F' w' A lv:=h.keep hc.size (fun p q hp=>chg_cell hc p q hp) hF
end
end Go.Proofs.YtldfoadildaljaaGreat
end
section
set_option maxRecDepth 20000
set_option linter.unusedVariables false
set_option linter.unusedSimpArgs false
namespace Go.Proofs.YtldfoadildaljaaGreat
open Go.RowKit
set_option maxHeartbeats 4000000 in
theorem eachFl_any (W w:World) (b:Nat) (H:BH) (N:Bch) (h:BP W w b H N) (lv:List Bool) (A:Option Addr) (m cp:Nat) (hm:m=lv.length) (hv:RdOX (BF b H N.n) w A lv) :
    Calls Tryz.prog 68 #[.pointer (some ⟨b,0,none⟩),.slice A m cp,.func (.func 69) #[.pointer (some ⟨b,0,none⟩)] #[]] w fun e w'=>e=.returned (.int .i64 (onTo flF lv N N.n).1)∧BC W w w' b H N.n (onTo flF lv N N.n).2:=by
 subst hm
 have Hh:=Lib.hid h
 have hn8:=h.at'.ok.n
 have CL:=Lib.hid (bp_len W w b H N h)
 have Hv:=Lib.hid hv
 obtain ⟨rr,hrr⟩:∃ rr,onTo flF lv N N.n=rr:=⟨_,rfl⟩
 rw [hrr]
 have Hall:=Lib.hid hrr.symm
 clear hrr
 have CV:=Lib.hid (fun (W1:World) (H1:BH) (N1:Bch) (hp:BP W W1 b H1 N1) (hv1:RdOX (BF b H1 N.n) W1 A lv) (j:Nat) (hj:j ≤ 1000000)=>alvIs_any W.heap.size b H1 N1 W1 hp.at' lv A lv.length cp rfl hv1.rdo (j:Int) (by omega) (by omega))
 clear h hv
 obtain ⟨n0,hn0⟩:∃ n0,N.n=n0:=⟨_,rfl⟩
 rw [hn0] at CL Hall hn8
 have Hn0:=Lib.hid hn0
 clear hn0
 go_enter Tryz.func68,Tryz.ntmps68
 go_wp2_with fail
 (with_reducible refine CL.out.mono ?_);rintro e w1 ⟨rfl,rfl⟩
 go_wp2
 go_loopw [11] (fun i wr=>∃ j:Nat,j ≤ n0∧i=.int .i64 j∧(onTo flF lv N j).1=0∧BC W w1 wr b H N.n (onTo flF lv N j).2) (fun i _=>n0 - (intOf i).toNat)
 case atStart=>exact ⟨0,Nat.zero_le _,rfl,rfl,Hh.out.self⟩
 case round =>
  obtain ⟨j,hj,rfl,hz,hbc⟩:=hrel
  have Hz:=Lib.hid hz
  have Hbc:=Lib.hid hbc
  obtain ⟨Hj,aj,cj,nj⟩:=hbc
  have Haj:=Lib.hid aj
  have Hcj:=Lib.hid cj
  have Hnj:=Lib.hid nj
  clear hz aj cj nj
  by_cases hlt:j < n0
  ·have i0:(0:Int) ≤ (j:Int):=by omega
   have i1:(j:Int) < (n0:Int):=by omega
   have Hnn:Hid ((onTo flF lv N j).2.n=N.n):=flushed_n j
   have CL1:=Lib.hid (CV.out wr Hj _ Haj.out (Hv.out.chg Hcj.out (bnew_weak Hnj.out)) j (by omega))
   have HLv:=Lib.hid (show alvD (onTo flF lv N j).2.n lv (j:Int)=lv.getD j false by rw [alvD_nat,Hnn.out,Hn0.out,decide_eq_true hlt];rfl)
   rw [HLv.out] at CL1
   cases hb:lv.getD j false with
   | false =>
     rw [hb] at CL1
     have HS:=Lib.hid (onTo_skip Hz.out hb)
     clear hb CL CV HLv
     go_wp2_with (go_at_call 88;(with_reducible refine CL1.out.mono ?_);rintro e w2 ⟨rfl,h2⟩;obtain rfl:wr=w2:=h2.symm)
     go_roundw
     case rel=>exact ⟨j + 1,by omega,by go_num,by rw [HS.out];exact Hz.out,by rw [HS.out];exact Hbc.out⟩
     case measure=>simp [intOf];omega
   | true =>
     rw [hb] at CL1
     have CF:=Lib.hid (show Calls Tryz.prog 69 #[.pointer (some ⟨b,0,none⟩),.int .i64 (j:Int)] wr fun e w'=>e=.returned (.int .i64 (flF (onTo flF lv N j).2 j).1)∧BC W wr w' b Hj (onTo flF lv N j).2.n (flF (onTo flF lv N j).2 j).2 from bp_flush W wr b Hj _ Haj.out (j:Int) (i64n (by omega)))
     have HX:Hid (∀ w2,BC W wr w2 b Hj (onTo flF lv N j).2.n (flF (onTo flF lv N j).2 j).2→BC W w1 w2 b H N.n (flF (onTo flF lv N j).2 j).2):=fun w2 h2=>by
      rw [Hnn.out] at h2
      exact h2.seq Hcj.out Hnj.out
     have HG:=Lib.hid (fun hq=>onTo_goes (f:=flF) Hz.out hb hq)
     have HP:=Lib.hid (fun hq=>onTo_pass (f:=flF) Hz.out hb hq)
     clear hb CL CV HLv
     generalize flF (onTo flF lv N j).2 j=r at CF HX HG HP
     obtain ⟨e,Nx⟩:=r
     by_cases h5:e=5
     ·have HP:=Lib.hid (HP.out h5)
      clear HG
      rw [h5] at CF
      clear h5
      go_wp2_with (first | (go_at_call 88;(with_reducible refine CL1.out.mono ?_);rintro e w2 ⟨rfl,h2⟩;obtain rfl:wr=w2:=h2.symm) | (go_at_call 69;(with_reducible refine CF.out.mono ?_);rintro e w3 ⟨rfl,ht⟩;have Ht:=Lib.hid (HX.out _ ht);clear ht))
      go_roundw
      case rel=>exact ⟨j + 1,by omega,by go_num,by rw [HP.out],by rw [HP.out];exact Ht.out⟩
      case measure=>simp [intOf];omega
     ·have HG:=Lib.hid (HG.out h5)
      clear HP
      by_cases h0:e=0
      ·rw [h0] at CF HG
       clear h5 h0
       go_wp2_with (first | (go_at_call 88;(with_reducible refine CL1.out.mono ?_);rintro e w2 ⟨rfl,h2⟩;obtain rfl:wr=w2:=h2.symm) | (go_at_call 69;(with_reducible refine CF.out.mono ?_);rintro e w3 ⟨rfl,ht⟩;have Ht:=Lib.hid (HX.out _ ht);clear ht))
       go_roundw
       case rel=>exact ⟨j + 1,by omega,by go_num,by rw [HG.out],by rw [HG.out];exact Ht.out⟩
       case measure=>simp [intOf];omega
      ·have n5:(e != 5)=true:=by rw [bne_iff_ne];exact h5
       have n0':(e != 0)=true:=by rw [bne_iff_ne];exact h0
       have HS:=Lib.hid (onTo_stop (f:=flF) (lv:=lv) (N:=N) (i:=j + 1) (by rw [HG.out];exact h0) n0 (by omega))
       clear h5 h0
       go_wp2_with (first | (go_at_call 88;(with_reducible refine CL1.out.mono ?_);rintro e w2 ⟨rfl,h2⟩;obtain rfl:wr=w2:=h2.symm) | (go_at_call 69;(with_reducible refine CF.out.mono ?_);rintro e w3 ⟨rfl,ht⟩;have Ht:=Lib.hid (HX.out _ ht);clear ht))
       go_ret
       exact ⟨by rw [Hall.out,HS.out,HG.out];rfl,by rw [Hall.out,HS.out,HG.out];exact Ht.out⟩
  ·obtain rfl:j=n0:=by omega
   go_wp2
   go_ret
   exact ⟨by rw [Hall.out,Hz.out];rfl,by rw [Hall.out];exact Hbc.out⟩
end Go.Proofs.YtldfoadildaljaaGreat
end
section
set_option maxRecDepth 8000
set_option linter.unusedVariables false
set_option linter.unusedSimpArgs false
namespace Go.Proofs.YtldfoadildaljaaGreat
open Go.RowKit
structure KX (W w:World) (b:Nat) (H:BH) (N:Bch) (K:List (Nat × Obj)):Prop where
 bp:BP W w b H N
 kp:∀ p ∈ K,w.heap[p.1]?=some p.2∧¬ BF b H N.n p.1∧W.heap.size ≤ p.1
section
variable {W w w':World} {b:Nat} {H:BH} {N:Bch} {K:List (Nat × Obj)}
theorem KX.below (h:KX W w b H N K) (hb:Below w.heap.size w w'):KX W w' b H N K :=
 ⟨h.bp.grow hb,fun p hp=>⟨(hb.block _ (Array.getElem?_eq_some_iff.1 (h.kp p hp).1).1).trans (h.kp p hp).1,(h.kp p hp).2⟩⟩
theorem KX.add (h:KX W w b H N K) (o:Obj):KX W (w.alloc o) b H N ((w.heap.size,o)::K):=by
 refine ⟨h.bp.alloc o,fun p hp=>?_⟩
 rcases List.mem_cons.1 hp with rfl | hp
 ·exact ⟨heap_alloc_new _ _,(fun e=>by have h9:w.heap.size < w.heap.size:=(h.bp.at'.flt e).2;omega),h.bp.bel.size⟩
 ·exact (h.below (below1 w o)).kp p hp
theorem KX.put (h:KX W w b H N K) {p:Nat} {o o':Obj} {K1 K2:List (Nat × Obj)} (hK:K=K1 ++ (p,o)::K2) (hg:w.grownBy w' (some p)) (hb:w'.heap[p]?=some o') (hne:∀ r ∈ K1 ++ K2,r.1 ≠ p):KX W w' b H N (K1 ++ (p,o')::K2):=by
 subst hK
 have hp:=h.kp (p,o) (by simp)
 have hch:=chg_grown hg
 refine ⟨h.bp.chg hch (fun k e=>by injection e with e;subst e;exact hp.2.2) (fun k hk e=>by injection e with e;subst e;exact hp.2.1 hk),fun r hr=>?_⟩
 rcases List.mem_append.1 hr with h1 | h1
 ·have h2:=h.kp r (by simp [h1])
  exact ⟨(hg.block _ (Array.getElem?_eq_some_iff.1 h2.1).1 (fun e=>by injection e with e;exact hne r (by simp [h1]) e)).trans h2.1,h2.2⟩
 ·rcases List.mem_cons.1 h1 with rfl | h1
  ·exact ⟨hb,hp.2⟩
  ·have h2:=h.kp r (by simp [h1])
   exact ⟨(hg.block _ (Array.getElem?_eq_some_iff.1 h2.1).1 (fun e=>by injection e with e;exact hne r (by simp [h1]) e)).trans h2.1,h2.2⟩
end
theorem damage_n (N:Bch) (d k:Int) (x:List UInt8):(N.damage d k x).n=N.n:=by unfold Bch.damage;split <;> rfl
theorem fail_n (N:Bch) (d:Int):(N.fail d).n=N.n:=by unfold Bch.fail;split <;> rfl
section
variable {W w:World} {b:Nat} {H:BH} {N:Bch} {K:List (Nat × Obj)} (h:KX W w b H N K)
include h
end
end Go.Proofs.YtldfoadildaljaaGreat
end
section
set_option maxRecDepth 20000
set_option linter.unusedVariables false
set_option linter.unusedSimpArgs false
namespace Go.Proofs.YtldfoadildaljaaGreat
open Go.RowKit
structure KS (W w:World) (b:Nat) (H:BH) (N:Bch) (K:List (Nat × Obj)) (R:List (Option Addr × List (List UInt8))) (S:List (Option Addr × List UInt8)):Prop where
 kx:KX W w b H N K
 rx:∀ p ∈ R,RdRX (BF b H N.n) w p.1 p.2
 sx:∀ p ∈ S,RdBX (BF b H N.n) w p.1 p.2
section
variable {W w w':World} {b:Nat} {H:BH} {N:Bch} {K:List (Nat × Obj)} {R:List (Option Addr × List (List UInt8))} {S:List (Option Addr × List UInt8)}
theorem KX.ks (h:KX W w b H N K):KS W w b H N K [] []:=⟨h,fun _ hp=>absurd hp (by simp),fun _ hp=>absurd hp (by simp)⟩
theorem KS.bp (h:KS W w b H N K R S):BP W w b H N:=h.kx.bp
theorem KS.below (h:KS W w b H N K R S) (hb:Below w.heap.size w w'):KS W w' b H N K R S:=⟨h.kx.below hb,fun p hp=>(h.rx p hp).below hb,fun p hp=>(h.sx p hp).below hb⟩
theorem KS.bc (h:KS W w b H N K R S) {N':Bch} (hc:BC W w w' b H N.n N') (hn:N'.n=N.n):∃ H',KS W w' b H' N' K R S:=by
 obtain ⟨H',a,c,m⟩:=hc
 have hx:KX W w' b H' N' K:=by
  refine ⟨a,fun p hp=>?_⟩
  obtain ⟨h1,h2,h3⟩:=h.kx.kp p hp
  have hl:=(Array.getElem?_eq_some_iff.1 h1).1
  exact ⟨(c.block _ hl h2).trans h1,by rw [hn];exact BC.off m hl h2,h3⟩
 exact ⟨H',hx,fun p hp=>by rw [hn];exact (h.rx p hp).chg c (bnew_weak m),fun p hp=>by rw [hn];exact (h.sx p hp).chg c (bnew_weak m)⟩
theorem KS.add (h:KS W w b H N K R S) (o:Obj):KS W (w.alloc o) b H N ((w.heap.size,o)::K) R S:=⟨h.kx.add o,fun p hp=>(h.rx p hp).below (below1 w o),fun p hp=>(h.sx p hp).below (below1 w o)⟩
theorem KS.flt (h:KS W w b H N K R S):∀ k,BF b H N.n k→k < w.heap.size:=fun k hk=>(h.bp.at'.flt hk).2
theorem KS.off (h:KS W w b H N K R S) {lo:Nat} (hlo:w.heap.size ≤ lo):∀ k,k < w'.heap.size→lo ≤ k→¬ BF b H N.n k:=fun k _ hk e=>by have:=h.flt k e;omega
theorem KS.rows (h:KS W w b H N K R S) (hb:Below w.heap.size w w') {A:Option Addr} {rs:List (List UInt8)} (hr:RdF w.heap.size w' A rs):KS W w' b H N K ((A,rs)::R) S:=by
 have h':=h.below hb
 refine ⟨h'.kx,fun p hp=>?_,h'.sx⟩
 rcases List.mem_cons.1 hp with rfl | hp
 ·exact hr.rdrx (h.off (Nat.le_refl _))
 ·exact h'.rx p hp
theorem KS.slice (h:KS W w b H N K R S) (hb:Below w.heap.size w w') {A:Option Addr} {bs:List UInt8} (hr:RdBF w.heap.size w' A bs):KS W w' b H N K R ((A,bs)::S):=by
 have h':=h.below hb
 refine ⟨h'.kx,h'.rx,fun p hp=>?_⟩
 rcases List.mem_cons.1 hp with rfl | hp
 ·exact hr.rdbx (h.off (Nat.le_refl _))
 ·exact h'.sx p hp
theorem KS.less (h:KS W w b H N K R S) {K':List (Nat × Obj)} {R':List (Option Addr × List (List UInt8))} {S':List (Option Addr × List UInt8)} (hK:∀ p ∈ K',p ∈ K) (hR:∀ p ∈ R',p ∈ R) (hS:∀ p ∈ S',p ∈ S):KS W w b H N K' R' S' :=
 ⟨⟨h.kx.bp,fun p hp=>h.kx.kp p (hK p hp)⟩,fun p hp=>h.rx p (hR p hp),fun p hp=>h.sx p (hS p hp)⟩
theorem KS.rd (h:KS W w b H N K R S) {A:Option Addr} {rs:List (List UInt8)} (hm:(A,rs) ∈ R):RdR w w.heap.size A rs:=(h.rx _ hm).rdr
theorem KS.sl (h:KS W w b H N K R S) {A:Option Addr} {bs:List UInt8} (hm:(A,bs) ∈ S):RdB w w.heap.size A bs:=(h.sx _ hm).rdb
theorem KS.lv (h:KS W w b H N K R S) {g:Nat} {cs:Array Value} {t:TypeId} {f:Nat × Nat} {lv:List Bool} (hm:(g,Obj.cells cs t f) ∈ K) (hcs:cs=(lv.map Value.bool).toArray) (hl:lv.length ≤ 1000000):RdOX (BF b H N.n) w (some ⟨g,0,none⟩) lv:=by
 subst hcs
 obtain ⟨h1,h2,_⟩:=h.kx.kp _ hm
 refine ⟨by omega,fun _=>⟨g,0,rfl,(Array.getElem?_eq_some_iff.1 h1).1,h2,fun k hk=>?_⟩⟩
 rw [Nat.zero_add,cell_of_row w g k _ t f h1,List.getElem?_toArray,List.getElem?_map,List.getElem?_eq_getElem hk]
 simp [List.getD_eq_getElem?_getD,hk]
end
section
variable {W w:World} {b:Nat} {H:BH} {N:Bch} {K:List (Nat × Obj)} {R:List (Option Addr × List (List UInt8))} {S:List (Option Addr × List UInt8)} (h:KS W w b H N K R S)
include h
theorem ks_damage (d k:Int) (x:List UInt8) (A:Option Addr) (n c:Nat) (hn:n=x.length) (hd:i64B d) (hk:i64B k) (hr:RdB w w.heap.size A x) (hps:∀ i,i < N.n→(N.D i).ps.length ≤ 2000000) :
    Calls Tryz.prog 29 #[.pointer (some ⟨b,0,none⟩),.int .i64 d,.int .i64 k,.slice A n c] w fun e w'=>e=.returned (.int .i64 (N.damageE d k n))∧∃ H',KS W w' b H' (N.damage d k x) K R S:=by
 refine (bch_damage_any _ b H N w h.bp.at' d k x A n c hn hd hk hr hps).mono ?_
 rintro e w' ⟨rfl,ht⟩
 obtain ⟨H',k'⟩:=h.bc (h.bp.to ht) (damage_n _ _ _ _)
 exact ⟨rfl,H',k'⟩
theorem ks_fail (d:Int) (hd:i64B d):Calls Tryz.prog 21 #[.pointer (some ⟨b,0,none⟩),.int .i64 d] w fun e w'=>e=.returned (.int .i64 (N.pickE d))∧∃ H',KS W w' b H' (N.fail d) K R S:=by
 refine (bp_fail W w b H N h.bp d hd).mono ?_
 rintro e w' ⟨rfl,ht⟩
 obtain ⟨H',k'⟩:=h.bc ht (fail_n _ _)
 exact ⟨rfl,H',k'⟩
end
end Go.Proofs.YtldfoadildaljaaGreat
end
