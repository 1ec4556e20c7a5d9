/- Texts put together: StpFld, StpStd, LogPutG. -/
import Derived.Test.YtldfoadildaljaaGreatWmav
import Derived.Test.YtldfoadildaljaaGreatWmay
section
set_option linter.unusedVariables false
set_option linter.unusedSimpArgs false
namespace Go.Proofs.YtldfoadildaljaaGreat
structure Gd (N:Bch) (m:Nat):Prop where
 n:N.n=m
 dn:N.down=false
 lf:N.left=-1
 done:N.done=0
 ps:∀ i,i < m→(N.D i).ps=[]
 ok:∀ i,i < m→(N.D i).Ok
 f:∀ i,i < m→(N.D i).f=false
structure Fld (N:Bch) (m D:Nat) (fl:Nat→List (List UInt8)) (s j:Nat):Prop where
 gd:Gd N m
 at':∀ t i,i < D→t < 16→t < s∨(t=s∧i < j)→secAt (N.D i).now (36 + t)=(fl t).getD i []
theorem gd_new (m:Nat):Gd (Bch.new m) m:=⟨rfl,rfl,rfl,rfl,fun _ _=>rfl,fun _ _=>Dsk.new_ok,fun _ _=>rfl⟩
theorem fld_new (m D:Nat) (fl:Nat→List (List UInt8)):Fld (Bch.new m) m D fl 0 0:=⟨gd_new m,fun t i _ _ h=>by omega⟩
theorem damage_do {N:Bch} {d k:Nat} {x:List UInt8} (hd:d < N.n) (hk:k < 52) (hx:x.length=32) (hf:(N.D d).f=false):N.damage (d:Int) (k:Int) x=N.set d ((N.D d).damage k x):=by
 unfold Bch.damage
 rw [if_neg (by rw [Bch.pickE_ok (by omega) (by omega)];simp)]
 show N.set d ((N.D d).damageE (k:Int) x)=_
 unfold Dsk.damageE
 rw [if_pos (by rw [hx,hf];exact takeE_ok (by omega) (by omega))]
 rfl
theorem gd_damage {N:Bch} {m d k:Nat} {x:List UInt8} (h:Gd N m) (hd:d < m) (hk:k < 52) (hx:x.length=32):Gd (N.damage (d:Int) (k:Int) x) m:=by
 rw [damage_do (by rw [h.n];exact hd) hk hx (h.f d hd)]
 refine ⟨h.n,h.dn,h.lf,h.done,fun i hi=>?_,fun i hi=>?_,fun i hi=>?_⟩ <;> show _
 ·show (upd N.D d _ i).ps=[]
  by_cases e:i=d
  ·subst e;rw [upd_same];show List.filter _ (N.D i).ps=[];rw [h.ps i hi];rfl
  ·rw [upd_other _ _ e];exact h.ps i hi
 ·show (upd N.D d _ i).Ok
  by_cases e:i=d
  ·subst e;rw [upd_same];exact (h.ok i hi).damage hk hx
  ·rw [upd_other _ _ e];exact h.ok i hi
 ·show (upd N.D d _ i).f=false
  by_cases e:i=d
  ·subst e;rw [upd_same];exact h.f i hi
  ·rw [upd_other _ _ e];exact h.f i hi
theorem sec_damage {N:Bch} {m d k:Nat} {x:List UInt8} (h:Gd N m) (hd:d < m) (hk:k < 52) (hx:x.length=32) (i j:Nat):secAt ((N.damage (d:Int) (k:Int) x).D i).now j=if i=d∧j=k then x else secAt (N.D i).now j:=by
 rw [damage_do (by rw [h.n];exact hd) hk hx (h.f d hd)]
 show secAt (upd N.D d _ i).now j=_
 by_cases e:i=d
 ·subst e
  rw [upd_same,Dsk.damage_now (h.ok i hd) hk hx]
  by_cases e2:j=k
  ·subst e2;rw [if_pos ⟨rfl,rfl⟩];exact sec_put_same (h.ok i hd).now hk hx
  ·rw [if_neg (fun q=>e2 q.2)];exact sec_put_other (h.ok i hd).now hk hx e2
 ·rw [upd_other _ _ e,if_neg (fun q=>e q.1)]
theorem fld_damage {N:Bch} {m D:Nat} {fl:Nat→List (List UInt8)} {s j:Nat} (h:Fld N m D fl s j) (hj:j < m) (hs:s < 16) (hx:((fl s).getD j []).length=32):Fld (N.damage (j:Int) ((36 + s:Nat):Int) ((fl s).getD j [])) m D fl s (j + 1):=by
 refine ⟨gd_damage h.gd hj (by omega) hx,fun t i hi ht h2=>?_⟩
 rw [sec_damage h.gd hj (by omega) hx]
 by_cases e:i=j∧36 + t=36 + s
 ·rw [if_pos e]
  obtain ⟨rfl,e2⟩:=e
  obtain rfl:t=s:=by omega
  rfl
 ·rw [if_neg e]
  exact h.at' t i hi ht (by omega)
theorem fld_next {N:Bch} {m D:Nat} {fl:Nat→List (List UInt8)} {s:Nat} (h:Fld N m D fl s D):Fld N m D fl (s + 1) 0:=⟨h.gd,fun t i hi ht h2=>h.at' t i hi ht (by omega)⟩
theorem Fld.all {N:Bch} {m D:Nat} {fl:Nat→List (List UInt8)} (h:Fld N m D fl 16 0) {t i:Nat} (hi:i < D) (ht:t < 16):secAt (N.D i).now (36 + t)=(fl t).getD i []:=h.at' t i hi ht (by omega)
end Go.Proofs.YtldfoadildaljaaGreat
end
section
set_option linter.unusedVariables false
set_option linter.unusedSimpArgs false
namespace Go.Proofs.YtldfoadildaljaaGreat
structure Std (N:Bch) (m D:Nat) (fl:Nat→List (List UInt8)):Prop where
 n:N.n=m
 dn:N.down=false
 at':∀ i,i < D→∀ t,t < 16→(N.D i).f=false→secAt (N.D i).now (36 + t)=(fl t).getD i []
theorem fail_D {N:Bch} {d:Nat} (hd:d < N.n) (i:Nat):(N.fail (d:Int)).D i=if i=d then Dsk.failed else N.D i:=by
 unfold Bch.fail
 rw [if_neg (by rw [Bch.pickE_ok (by omega) (by omega)];simp)]
 show upd N.D ((d:Int)).toNat Dsk.failed i=_
 rw [show ((d:Int)).toNat=d by omega]
 by_cases e:i=d
 ·subst e;rw [upd_same,if_pos rfl]
 ·rw [upd_other _ _ e,if_neg e]
theorem fail_up {N:Bch} {d:Int}:(N.fail d).down=N.down:=by unfold Bch.fail;split <;> rfl
theorem fail_is {N:Bch} {d:Int}:(N.fail d).n=N.n:=by unfold Bch.fail;split <;> rfl
section
variable {N:Bch} {m D F W:Nat} {fl:Nat→List (List UInt8)} {n l c:Int} {t:Nat} {lv:List Bool} {rs:List (List UInt8)}
theorem Std.read (h:Std N m D fl) (ht:t < 16) (h32:∀ i,i < D→((fl t).getD i []).length=32):(∀ i,i < D→((ssL N lv (36 + t) D).getD i []).length=0∨(ssL N lv (36 + t) D).getD i []=(fl t).getD i [])∧(∀ i,i < D→emptyB (ssL N lv (36 + t) D) i=!srvD N lv i):=by
 refine ⟨fun i hi=>?_,fun i hi=>?_⟩
 ·rw [ssL_get hi]
  split
  ·next hs=>exact .inr (h.at' i hi t ht (srvD_yes hs).2.2)
  ·exact .inl rfl
 ·unfold emptyB
  rw [ssL_get hi]
  cases hs:srvD N lv i with
  | true=>rw [if_pos rfl,h.at' i hi t ht (srvD_yes hs).2.2,h32 i hi];rfl
  | false=>rw [if_neg (by simp)];rfl
theorem take_either {l d c r:Int} {rs xs:List (List UInt8)} (h:fillOk l d c r rs=true) (hl:xs.length=roD d) (hx:∀ i,i < roD d→(xs.getD i []).length=0∨xs.getD i []=(fillL (roD d) (roF l d c r) rs).getD i []) (hs:(roTake l d c r xs).isSome=true):roTake l d c r xs=some rs:=by
 refine take_back h hl hx ?_
 rw [roTake_yes (fillOk_yes h).1 hl] at hs
 unfold solveB at hs
 split at hs
 ·next hc =>
  rw [Bool.and_eq_true] at hc
  have:=hc.2
  unfold canB at this
  rw [Bool.and_eq_true] at this
  exact of_decide_eq_true this.1
 ·cases hs
theorem Std.told (h:Std N m D fl) (gr:Gr n l c (t:Int) D F W) (hrs:rs.length=W) (ha:∀ x ∈ rs,x.length=32) (hfl:fl t=fillL D F rs) (lv:List Bool) :
    if (roTake l (D:Int) c (t:Int) (ssL N lv (36 + t) D)).isSome=true then srdE N lv l (D:Int) c (t:Int)=0∧srdL N lv l (D:Int) c (t:Int)=rs else srdE N lv l (D:Int) c (t:Int)=7∧srdL N lv l (D:Int) c (t:Int)=[]:=by
 have ht:t < 16:=by have:=gr.r0;omega
 have h32:∀ i,i < D→((fl t).getD i []).length=32:=fun i hi=>by rw [hfl];exact gr.fills hrs ha hi
 obtain ⟨h1,h2⟩:=h.read (lv:=lv) ht h32
 have e36:ssL N lv (36 + ((t:Int)).toNat) (roD (D:Int))=ssL N lv (36 + t) D:=by rw [gr.eD];rfl
 split
 ·next hs =>
  refine srdE_ok gr.ok (.inl h.dn) ?_
  rw [e36]
  refine take_either (gr.fok hrs ha) (by rw [ssL_len,gr.eD]) (fun i hi=>?_) hs
  rw [gr.eD] at hi
  rw [gr.eD,gr.eF,← hfl]
  exact h1 i hi
 ·next hs =>
  refine srdE_lost gr.ok (.inl h.dn) ?_
  rw [e36]
  cases hq:roTake l (D:Int) c (t:Int) (ssL N lv (36 + t) D) with
  | none=>rfl
  | some L=>rw [hq] at hs;exact absurd rfl hs
theorem Std.ok (h:Std N m D fl) (gr:Gr n l c (t:Int) D F W) (hrs:rs.length=W) (ha:∀ x ∈ rs,x.length=32) (hfl:fl t=fillL D F rs) (hc:((cntB D (fun i=>!srvD N lv i):Nat):Int) ≤ l - 4) :
    srdE N lv l (D:Int) c (t:Int)=0∧srdL N lv l (D:Int) c (t:Int)=rs:=by
 have ht:t < 16:=by have:=gr.r0;omega
 have h32:∀ i,i < D→((fl t).getD i []).length=32:=fun i hi=>by rw [hfl];exact gr.fills hrs ha hi
 obtain ⟨h1,h2⟩:=h.read (lv:=lv) ht h32
 have:=h.told gr hrs ha hfl lv
 rw [if_pos] at this
 ·exact this
 ·rw [lose_ok (gr.fok hrs ha) (by rw [ssL_len,gr.eD]) (fun i hi=>by
    rw [gr.eD] at hi
    rw [gr.eD,gr.eF,← hfl]
    exact h1 i hi) (by rw [gr.eD,cntB_congr h2];exact hc)]
  rfl
end
structure SwG (N M:Bch) (lv:List Bool) (a:Nat) (xs:List (List UInt8)) (i:Nat):Prop where
 n:M.n=N.n
 dn:M.down=false
 lf:M.left=-1
 D:∀ j,M.D j=if j < i∧srvD N lv j=true then (N.D j).write a (xs.getD j []) else N.D j
theorem SwG.srv {N M:Bch} {lv:List Bool} {a:Nat} {xs:List (List UInt8)} {i:Nat} (g:SwG N M lv a xs i) (j:Nat):srvD M lv j=srvD N lv j:=by
 refine srvD_congr g.n ?_
 rw [g.D j];split <;> rfl
theorem sw_good {N:Bch} {lv:List Bool} {a D:Nat} {xs:List (List UInt8)} (ha:a < 52) (hx:∀ i,i < D→(xs.getD i []).length=32) (hd:N.down=false) (hl:N.left=-1):∀ i,i ≤ D→(swTo lv a xs N i).1=0∧SwG N (swTo lv a xs N i).2 lv a xs i
 | 0,_=>⟨rfl,rfl,hd,hl,fun j=>(if_neg (by omega)).symm⟩
 | i + 1,hi=>by
   obtain ⟨h0,g⟩:=sw_good (lv:=lv) ha hx hd hl i (by omega)
   have hs:=g.srv i
   cases hb:srvD N lv i with
   | false =>
     rw [hb] at hs
     rw [swTo_skip h0 hs]
     refine ⟨h0,g.n,g.dn,g.lf,fun j=>?_⟩
     rw [g.D j]
     by_cases e:j=i
     ·subst e;rw [hb,if_neg (by omega),if_neg (by simp)]
     ·by_cases c:j < i
      ·simp only [c,show j < i + 1 by omega]
      ·rw [if_neg (by omega),if_neg (by omega)]
   | true =>
     rw [hb] at hs
     obtain ⟨s1,s2,s3⟩:=srvD_yes hs
     have hDi:(swTo lv a xs N i).2.D i=N.D i:=by rw [g.D i,if_neg (by omega)]
     have hw:=Bch.write_ok (N:=(swTo lv a xs N i).2) (d:=i) (k:=a) (x:=xs.getD i []) s1 ha (hx i (by omega)) s3 g.dn (by rw [g.lf];decide)
     rw [Bch.count_free (by exact g.lf),hDi] at hw
     rw [swTo_goes h0 hs]
     refine ⟨hw.1,?_⟩
     show SwG N ((swTo lv a xs N i).2.write (i:Int) (a:Int) (xs.getD i [])) lv a xs (i + 1)
     rw [hw.2]
     refine ⟨g.n,g.dn,g.lf,fun j=>?_⟩
     show upd (swTo lv a xs N i).2.D i _ j=_
     by_cases e:j=i
     ·subst e;rw [upd_same,if_pos ⟨by omega,hb⟩]
     ·rw [upd_other _ _ e,g.D j]
      by_cases c:j < i
      ·simp only [c,show j < i + 1 by omega]
      ·rw [if_neg (by omega),if_neg (by omega)]
theorem swr_good {N:Bch} {lv:List Bool} {n l c r:Int} {D F W:Nat} (gr:Gr n l c r D F W) {rs:List (List UInt8)} (hrs:rs.length=W) (ha:∀ x ∈ rs,x.length=32) (hd:N.down=false) (hl:N.left=-1) :
    (swrS N lv l (D:Int) c r rs).1=0∧SwG N (swrS N lv l (D:Int) c r rs).2 lv (36 + r.toNat) (fillL D F rs) D:=by
 have e:swrS N lv l (D:Int) c r rs=swTo lv (36 + r.toNat) (fillL D F rs) N D:=by
  unfold swrS;rw [if_neg (by rw [gr.fok hrs ha];simp),gr.eD,gr.eF]
 rw [e]
 exact sw_good (by have:=gr.r0;omega) (fun i hi=>gr.fills hrs ha hi) hd hl D (Nat.le_refl _)
theorem flushE_now (D:Dsk):D.flushE.now=D.now:=by unfold Dsk.flushE;split <;> rfl
theorem flushE_f (D:Dsk):D.flushE.f=D.f:=by unfold Dsk.flushE;split <;> rfl
theorem flD_now (lv:List Bool) (D:Dsk) (i j:Nat):(flD lv D i j).now=D.now:=by unfold flD;split;exact flushE_now D;rfl
theorem flD_f (lv:List Bool) (D:Dsk) (i j:Nat):(flD lv D i j).f=D.f:=by unfold flD;split;exact flushE_f D;rfl
theorem sfl_good {N:Bch} {lv:List Bool} (hd:N.down=false):(sflS N lv).1=0∧FlG N (sflS N lv).2 lv N.n:=flushed_good hd N.n (Nat.le_refl _)
end Go.Proofs.YtldfoadildaljaaGreat
end
section
set_option linter.unusedVariables false
set_option linter.unusedSimpArgs false
namespace Go.Proofs.YtldfoadildaljaaGreat
end Go.Proofs.YtldfoadildaljaaGreat
end
