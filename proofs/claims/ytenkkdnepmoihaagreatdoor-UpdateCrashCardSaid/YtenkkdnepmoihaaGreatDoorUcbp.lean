/- Texts put together: UpdFound, UpdLog. -/
import Derived.Test.YtenkkdnepmoihaaGreatDoorUcbn
import Derived.Test.YtenkkdnepmoihaaGreatDoorUcbj
import Derived.Test.YtenkkdnepmoihaaGreatDoorUcbb
section
set_option linter.unusedVariables false
set_option linter.unusedSimpArgs false
namespace Go.Proofs.YtenkkdnepmoihaaGreatDoor
theorem ok1:recOk 1 []=true:=by decide
theorem getS_none {N:Bch} {lv:List Bool} (h:∀ j,j < N.n→liveD N.n lv (j:Int)=true→onB N j=false):getS N lv=(0,[]):=by
 have hh:∀ d,d ≤ N.n→getTo N lv d=(0,[]):=fun d=>by
  induction d with
  | zero=>intro _;rfl
  | succ d ih =>
    intro hd
    rw [getTo,if_neg (fun q=>by rw [h d (by omega) q.1] at q;exact absurd q.2.1 (by decide))]
    exact ih (by omega)
 exact hh N.n (Nat.le_refl _)
theorem on_cut {R:List (List UInt8)} {its:List It} (hok:recOk 2 its=true) (h0:its ≠ []) (hh:R.getD 0 []=(recB 1 []).getD 0 []∨R.getD 0 []=(recB 2 its).getD 0 []) (hst:rcO R=true→rcL R=[]∨rcL R=its) :
    (rcO R=false)∨(rcS R=1∧rcL R=[])∨(rcS R=2∧rcL R=its):=by
 cases hr:rcO R with
 | false=>exact .inl rfl
 | true =>
   right
   have eS:rcS R=sqO R:=if_pos hr
   have eL:rcL R=itsO R:=if_pos hr
   rcases hh with h | h
   ·left
    have e1:sqO R=1:=by
     have:=sqO_recB ok1
     unfold sqO at this ⊢
     rw [h];exact this
    have e2:cnO R=0:=by
     have:=cnO_recB (s:=1) (l:=[]) (by simp)
     unfold cnO at this ⊢
     rw [h];exact this
    refine ⟨eS.trans e1,eL.trans ?_⟩
    unfold itsO;rw [e2];rfl
   ·right
    have e1:sqO R=2:=by
     have:=sqO_recB hok
     unfold sqO at this ⊢
     rw [h];exact this
    have hl3:=((recOk_iff _ _).1 hok).1.2.2
    have e2:cnO R=its.length:=by
     have:=cnO_recB (s:=2) (l:=its) hl3
     unfold cnO at this ⊢
     rw [h];exact this
    refine ⟨eS.trans e1,?_⟩
    rcases hst hr with q | q
    ·exfalso
     rw [eL] at q
     have h3:(itsO R).length=min its.length 3:=by unfold itsO;rw [itsN_len,e2]
     rw [q] at h3
     have:its.length ≠ 0:=fun e=>h0 (List.eq_nil_of_length_eq_zero e)
     simp at h3;omega
    ·exact q
theorem get_cut {N4 N5:Bch} {D:Nat} {lv5:List Bool} {its:List It} {old:Prop} (hok:recOk 2 its=true) (h0:its ≠ []) (hn:N5.n=D) (hdn:N5.down=false) (hol:Olds N4 D (recB 1 []) (recB 2 its)) (hsame:∀ j,j < D→srvD N5 lv5 j=true→logR (N5.D j)=logR (N4.D j))
    (hst:∀ j,j < D→rcO (logR (N4.D j))=true→rcL (logR (N4.D j))=[]∨rcL (logR (N4.D j))=its) (hex:∃ j,j < D∧srvD N5 lv5 j=true) (halt:old∨∀ j,j < D→logR (N4.D j)=recB 2 its) :
    getS N5 lv5=(2,its)∨((getS N5 lv5=(1,[])∨getS N5 lv5=(0,[]))∧old):=by
 have hon:∀ j,j < D→liveD N5.n lv5 (j:Int)=true→onS N5 j=0∨(onS N5 j=1∧onL N5 j=[])∨(onS N5 j=2∧onL N5 j=its):=fun j hj hl=>by
  cases hf:(N5.D j).f with
  | true=>exact .inl (onS_f hdn hf).1
  | false =>
    have hs:srvD N5 lv5 j=true:=by
     rw [liveD_nat,Bool.and_eq_true] at hl
     exact srvD_mk (of_decide_eq_true hl.1) hl.2 hf
    obtain ⟨a1,a2,_⟩:=onS_ok hdn hf
    rw [a1,a2,hsame j hj hs]
    rcases on_cut hok h0 (by rw [logR_get' _ (by omega)];exact hol j hj 0 (by omega)) (hst j hj) with h | h | h
    ·left;unfold rcS;rw [if_neg (by rw [h];decide)]
    ·exact .inr (.inl h)
    ·exact .inr (.inr h)
 by_cases h2:∃ j,j < D∧liveD N5.n lv5 (j:Int)=true∧onS N5 j=2
 ·left
  refine get_max (by decide) (fun j hj hl=>?_) (by obtain ⟨j,q1,q2,q3⟩:=h2;exact ⟨j,by omega,q2,q3⟩)
  rw [hn] at hj
  rcases hon j hj hl with h | h | h
  ·left;omega
  ·left;omega
  ·exact .inr h
 ·right
  have hlt:∀ j,j < D→liveD N5.n lv5 (j:Int)=true→onS N5 j=0∨(onS N5 j=1∧onL N5 j=[]):=fun j hj hl=>by
   rcases hon j hj hl with h | h | h
   ·exact .inl h
   ·exact .inr h
   ·exact absurd ⟨j,hj,hl,h.1⟩ h2
  refine ⟨?_,?_⟩
  ·by_cases h1:∃ j,j < D∧liveD N5.n lv5 (j:Int)=true∧onS N5 j=1
   ·left
    refine get_max (by decide) (fun j hj hl=>?_) (by obtain ⟨j,q1,q2,q3⟩:=h1;exact ⟨j,by omega,q2,q3⟩)
    rw [hn] at hj
    rcases hlt j hj hl with h | h
    ·left;omega
    ·exact .inr h
   ·right
    refine getS_none fun j hj hl=>?_
    rw [hn] at hj
    rcases hlt j hj hl with h | h
    ·rw [onB_pos,h];rfl
    ·exact absurd ⟨j,hj,hl,h.1⟩ h1
  ·rcases halt with h | h
   ·exact h
   ·obtain ⟨j,hj,hs⟩:=hex
    have:=(onS_rec (M:=N5) (j:=j) hdn (srvD_yes hs).2.2 hok ((hsame j hj hs).trans (h j hj))).1
    exact absurd ⟨j,hj,(srv_live hs).1,this⟩ h2
end Go.Proofs.YtenkkdnepmoihaaGreatDoor
end
section
set_option maxRecDepth 20000
set_option linter.unusedVariables false
set_option linter.unusedSimpArgs false
namespace Go.Proofs.YtenkkdnepmoihaaGreatDoor
open Go.RowKit
section
variable {W w:World} {b:Nat} {H:BH} {N:Bch} {K:List (Nat × Obj)} {R:List (Option Addr × List (List UInt8))} {S:List (Option Addr × List UInt8)} {I:List (Option Addr × List It)} (h:KU W w b H N K R S I)
include h
theorem ku_put (ht:TabOk W) (lv:List Bool) (LA:Option Addr) (ln lc:Nat) (hln:ln=lv.length) (hlv:RdOX (BF b H N.n) w LA lv) (s:Int) (l:List It) (A:Option Addr) (n c:Nat) (hn:n=l.length) (hnc:n ≤ c) (hm:(A,l) ∈ I) (h64:Its64 l) (hs:(-9223372036854775808 ≤ s∧s ≤ 9223372036854775807)) (hps:∀ i,i < N.n→(N.D i).ps.length ≤ 1000000) (hdn:N.done ≤ 1000000) :
    Calls Tryz.prog 30 #[.pointer (some ⟨b,0,none⟩),.slice LA ln lc,.agg #[.int .i64 s,.slice A n c]] w fun e w'=>e=.returned (.int .i64 (putS N lv s l).1)∧∃ H',KU W w' b H' (putS N lv s l).2 K R S I:=by
 refine (put_any W w b H N h.ks.bp ht lv LA ln lc hln hlv.rdo s l A n c hn hnc (h.it _ hm).rdI h64 hs hps hdn).mono ?_
 rintro e w' ⟨rfl,hc⟩
 exact ⟨rfl,h.bc hc (put_n _ _ _ _)⟩
theorem ku_app (lv:List Bool) (LA:Option Addr) (ln lc:Nat) (hln:ln=lv.length) (hlv:RdOX (BF b H N.n) w LA lv) (s:Int) (l:List It) (A:Option Addr) (n c:Nat) (hn:n=l.length) (hnc:n ≤ c) (hm:(A,l) ∈ I) (h64:Its64 l) (hs:(-9223372036854775808 ≤ s∧s ≤ 9223372036854775807)) (hps:∀ i,i < N.n→(N.D i).ps.length ≤ 1000000) (hdn:N.done ≤ 1000000) :
    Calls Tryz.prog 31 #[.pointer (some ⟨b,0,none⟩),.slice LA ln lc,.agg #[.int .i64 s,.slice A n c]] w fun e w'=>e=.returned (.int .i64 (appS N lv s l).1)∧∃ H',KU W w' b H' (appS N lv s l).2 K R S I:=by
 refine (app_any W w b H N h.ks.bp lv LA ln lc hln hlv.rdo s l A n c hn hnc (h.it _ hm) h64 hs hps hdn).mono ?_
 rintro e w' ⟨rfl,hc⟩
 exact ⟨rfl,h.bc hc (app_n _ _ _ _)⟩
theorem ku_get (ht:TabOk W) (lv:List Bool) (LA:Option Addr) (ln lc:Nat) (hln:ln=lv.length) (hlv:RdOX (BF b H N.n) w LA lv) (s:Int) (l:List It) (hgs:getS N lv=(s,l)) :
    Calls Tryz.prog 17 #[.pointer (some ⟨b,0,none⟩),.slice LA ln lc] w fun e w'=>∃ A c,e=.returned (.tuple #[.agg #[.int .i64 s,.slice A l.length c],.bool (decide (0 < s))])∧l.length ≤ c∧KU W w' b H N K R S ((A,l)::I)∧Below w.heap.size w w':=by
 refine (get_any _ b H N w h.ks.bp.at' (ht.below h.ks.bp.bel ht.pos) lv LA ln lc hln hlv.rdo).mono ?_
 rintro e w' ⟨v,rfl,ho,hb⟩
 rw [hgs] at ho ⊢
 obtain ⟨A,c,rfl,hc,_⟩:=ho.rd
 exact ⟨A,c,rfl,hc,h.own hb ho,hb⟩
theorem ku_crash (ks:List Bool) (A:Option Addr) (n c:Nat) (hn:n=ks.length) (hc:ks.length ≤ c) (hk:RdO W W.heap.size A ks) (hps:∀ i,i < N.n→(N.D i).ps.length ≤ 2000000) :
    Calls Tryz.prog 27 #[.pointer (some ⟨b,0,none⟩),.slice A n c] w fun e w'=>e=.returned (.tuple #[])∧∃ H',KU W w' b H' (N.crash ks) K R S I:=by
 refine (bp_crash_arg h.ks.bp ks A n c hn hc hk hps).mono ?_
 rintro e w' ⟨rfl,ht⟩
 exact ⟨rfl,h.bc ht rfl⟩
theorem ku_limit (v:Int) (hv:i64B v):Calls Tryz.prog 25 #[.pointer (some ⟨b,0,none⟩),.int .i64 v] w fun e w'=>e=.returned (.tuple #[])∧∃ H',KU W w' b H' (N.limit v) K R S I:=by
 refine (bp_limit W w b H N h.ks.bp v hv).mono ?_
 rintro e w' ⟨rfl,ht⟩
 exact ⟨rfl,h.bc ht (limit_n _ _)⟩
theorem ku_do (hu:UpdC) (ht:TabOk W) (lv:List Bool) (A:Option Addr) (m cp:Nat) (hm:m=lv.length) (hv:RdOX (BF b H N.n) w A lv) (l d c n:Int)
    (hl:-9223372036854775808 ≤ l∧l ≤ 9223372036854775807) (hd:-9223372036854775808 ≤ d∧d ≤ 9223372036854775807) (hc:-9223372036854775808 ≤ c∧c ≤ 9223372036854775807) (hn:-9223372036854775808 ≤ n∧n ≤ 9223372036854775807)
    (XA:Option Addr) (xn xc:Nat) (x:List UInt8) (hx:x.length=xn) (hxc:xn ≤ xc) (hr:RdB w w.heap.size XA x) (s:Int) (hs:-9223372036854775808 ≤ s∧s ≤ 9223372036854775807)
    (hf:upE N lv l d c n x=0→fillOk l d c (plOfR l d c n) (upX N lv l d c n x)=true) (hps:∀ i,i < N.n→(N.D i).ps.length ≤ 900000) (hdn:N.done ≤ 900000) :
    Calls Tryz.prog 15 #[.pointer (some ⟨b,0,none⟩),.slice A m cp,.agg #[.int .i64 l,.int .i64 d,.int .i64 c],.int .i64 n,.slice XA xn xc,.int .i64 s] w fun e w'=>e=.returned (.int .i64 (doS N lv l d c n x s).1)∧∃ H',KU W w' b H' (doS N lv l d c n x s).2 K R S I:=by
 refine (hu.do_ W w b H N h.ks.bp ht lv A m cp hm hv l d c n hl hd hc hn XA xn xc x hx hxc hr s hs hf hps hdn).mono ?_
 rintro e w' ⟨rfl,hc⟩
 exact ⟨rfl,h.bc hc (doS_n _ _ _ _ _ _ _ _)⟩
theorem ku_clone (hps:∀ i,i < N.n→(N.D i).ps.length ≤ 2000000) :
    Calls Tryz.prog 24 #[.pointer (some ⟨b,0,none⟩)] w fun e w'=>∃ b2 H2 L,e=.returned (.pointer (some ⟨b2,0,none⟩))∧KU W w' b H N (L ++ K) R S I∧Below w.heap.size w w'∧∀ V:World,(∀ p ∈ L,V.heap[p.1]?=some p.2)→BAt V W.heap.size b2 H2 N:=by
 refine (ks_clone h.ks hps).mono ?_
 rintro e w' ⟨b2,H2,L,rfl,k,hb,hV⟩
 exact ⟨b2,H2,L,rfl,⟨k,fun p hp=>(h.it p hp).below hb⟩,hb,hV⟩
end
theorem empty_apply {M:Bch} {D:Nat} {lv':List Bool} {l c:Int} {W:Nat} {ds:Nat→List (List UInt8)} (hd:Dat W ds) (hn:M.n=D) (hD:D ≤ 8) (hg:GoodB M) (hm:∀ i,i < D→∀ t,t < 16→srvD M lv' i=true→secAt (M.D i).now (36 + t)=(flG l c D ds t).getD i []) {s:Int} (hs:1 ≤ s∧s ≤ 2147483647) :
    (putS M lv' s []).1=0∧(appS (putS M lv' s []).2 lv' s []).1=0∧Arr (appS (putS M lv' s []).2 lv' s []).2 D lv' l c W ds∧(∀ j,j < D→((appS (putS M lv' s []).2 lv' s []).2.D j).f=(M.D j).f)∧(putS M lv' s []).2.done ≤ M.done + 32:=by
 have hok:recOk s []=true:=(recOk_iff _ _).2 ⟨⟨hs.1,hs.2,by simp⟩,(fineN_iff _ _).2 fun k hk=>absurd hk (by simp)⟩
 obtain ⟨p0,pg⟩:=put_good (lv:=lv') hg (by rw [hn];exact hD) hok
 have pd:=put_data (lv:=lv') hg hok
 obtain ⟨a0,ag⟩:=app_good (lv:=lv') pg.good hok
 generalize putS M lv' s []=q at *
 have hqn:q.2.n=D:=pg.n.trans hn
 have hMn:(appS q.2 lv' s []).2.n=D:=ag.n.trans hqn
 have hf:∀ j,j < D→((appS q.2 lv' s []).2.D j).f=(M.D j).f:=fun j hj=>(ag.f j (by rw [hqn];exact hj)).trans (pg.f j (by rw [hn];exact hj))
 refine ⟨p0,a0,⟨⟨hMn,ag.good,fun i hi t ht hs=>?_⟩,hd⟩,hf,pg.done⟩
 have hs':=(srvD_congr (N:=M) (hMn.trans hn.symm) (hf i hi)).symm.trans hs
 have hqf:(q.2.D i).f=false:=(pg.f i (by rw [hn];exact hi)).trans (srvD_yes hs').2.2
 rw [ag.not i (by rw [hqn];exact hi) hqf (36 + t) (by omega) (fun y hy=>absurd hy (by simp)),pd i (by rw [hn];exact hi) (srvD_yes hs').2.2 (36 + t) (by omega) (by omega)]
 exact hm i hi t ht hs'
end Go.Proofs.YtenkkdnepmoihaaGreatDoor
end
