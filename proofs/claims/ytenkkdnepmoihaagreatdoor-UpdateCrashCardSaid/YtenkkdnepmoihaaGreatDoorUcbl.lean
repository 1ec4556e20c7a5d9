/- Texts put together: UpdMath, UpdSpec, UpdArr, UpdCut, UpdLen. -/
import Derived.Test.YtenkkdnepmoihaaGreatDoorUcbk
import Derived.Test.YtenkkdnepmoihaaGreatDoorUcbe
import Derived.Test.YtenkkdnepmoihaaGreatDoorUcbj
section
set_option linter.unusedVariables false
set_option linter.unusedSimpArgs false
namespace Go.Proofs.YtenkkdnepmoihaaGreatDoor
def upIts (N:Bch) (lv:List Bool) (a:Nat) (xs:List (List UInt8)) (ks:List Nat):List It:=(ks.filter (srvD N lv)).map fun k:Nat=>⟨(k:Int),(a:Int),xs.getD k []⟩
def upE (N:Bch) (lv:List Bool) (l d c n:Int) (x:List UInt8):Int:=if x.length ≠ 32 then 1 else if plOfOk l d c n=false then 4 else srdE N lv l d c (plOfR l d c n)
def upX (N:Bch) (lv:List Bool) (l d c n:Int) (x:List UInt8):List (List UInt8):=(srdL N lv l d c (plOfR l d c n)).set (kOf l d c n) x
def upK (l d c n:Int):List Nat:=(plOfD l d c n).toNat::(plP l d c (plOfR l d c n)).toNat::if l=6 then [(plQ l d c (plOfR l d c n)).toNat] else []
def upL (N:Bch) (lv:List Bool) (l d c n:Int) (x:List UInt8):List It :=
 if upE N lv l d c n x ≠ 0 then [] else upIts N lv (36 + (plOfR l d c n).toNat) (fillL (roD d) (roF l d c (plOfR l d c n)) (upX N lv l d c n x)) (upK l d c n)
def upS (N:Bch) (lv:List Bool) (l d c n:Int) (x:List UInt8) (s:Int):Int:=if upE N lv l d c n x ≠ 0 then 0 else s
def doS (N:Bch) (lv:List Bool) (l d c n:Int) (x:List UInt8) (s:Int):Int × Bch :=
 if upE N lv l d c n x ≠ 0 then (upE N lv l d c n x,N) else
 if (putS N lv s (upL N lv l d c n x)).1 ≠ 0 then putS N lv s (upL N lv l d c n x) else appS (putS N lv s (upL N lv l d c n x)).2 lv s (upL N lv l d c n x)
theorem upL_no {N:Bch} {lv:List Bool} {l d c n:Int} {x:List UInt8} (h:upE N lv l d c n x ≠ 0):upL N lv l d c n x=[]:=if_pos h
theorem upS_no {N:Bch} {lv:List Bool} {l d c n:Int} {x:List UInt8} {s:Int} (h:upE N lv l d c n x ≠ 0):upS N lv l d c n x s=0:=if_pos h
theorem doS_n (N:Bch) (lv:List Bool) (l d c n:Int) (x:List UInt8) (s:Int):(doS N lv l d c n x s).2.n=N.n:=by
 unfold doS
 repeat' split
 ·rfl
 ·exact put_n _ _ _ _
 ·exact (app_n _ _ _ _).trans (put_n _ _ _ _)
theorem its_ok {s:Int} {ks:List Nat} {a:Nat} {xs:List (List UInt8)} (hs:1 ≤ s∧s ≤ 2147483647) (hn:ks.Nodup) (h3:ks.length ≤ 3) (h8:∀ k ∈ ks,k < 8) (ha:36 ≤ a∧a < 52) (hx:∀ k ∈ ks,(xs.getD k []).length=32) :
    recOk s (ks.map fun k:Nat=>⟨(k:Int),(a:Int),xs.getD k []⟩)=true:=by
 have hat:∀ k (hk:k < ks.length),itN (ks.map fun k:Nat=>(⟨(k:Int),(a:Int),xs.getD k []⟩:It)) k=⟨((ks[k]:Nat):Int),(a:Int),xs.getD ks[k] []⟩:=fun k hk=>by
  unfold itN
  rw [List.getD_eq_getElem?_getD,List.getElem?_map,List.getElem?_eq_getElem hk]
  rfl
 refine (recOk_iff _ _).2 ⟨⟨hs.1,hs.2,by rw [List.length_map];exact h3⟩,(fineN_iff _ _).2 fun k hk=>?_⟩
 rw [List.length_map] at hk
 rw [hat k hk]
 have hm:=List.getElem_mem hk
 have h1:=h8 _ hm
 refine ⟨(mayB_iff _).2 ⟨by show (0:Int) ≤ ((ks[k]:Nat):Int);omega,by show ((ks[k]:Nat):Int) < 8;omega,by show (36:Int) ≤ (a:Int);omega,by show (a:Int) < 52;omega,hx _ hm⟩,fun j hj=>?_⟩
 rw [hat j (by omega)]
 rw [← Bool.not_eq_true]
 intro e
 have e1:((ks[k]:Nat):Int)=((ks[j]'(by omega):Nat):Int):=((meetsB_iff _ _).1 e).1
 have:=(List.pairwise_iff_getElem.1 hn) j k (by omega) hk hj
 exact this (by omega)
theorem fil_nodup {ks:List Nat} (p:Nat→Bool) (h:ks.Nodup):(ks.filter p).Nodup:=List.Pairwise.filter p h
theorem upIts_ok {N:Bch} {lv:List Bool} {s:Int} {ks:List Nat} {a:Nat} {xs:List (List UInt8)} (hs:1 ≤ s∧s ≤ 2147483647) (hn:ks.Nodup) (h3:ks.length ≤ 3) (h8:∀ k ∈ ks,k < 8) (ha:36 ≤ a∧a < 52) (hx:∀ k ∈ ks,(xs.getD k []).length=32):recOk s (upIts N lv a xs ks)=true :=
 its_ok hs (fil_nodup _ hn) (Nat.le_trans (List.length_filter_le _ _) h3) (fun k hk=>h8 k (List.mem_filter.1 hk).1) ha (fun k hk=>hx k (List.mem_filter.1 hk).1)
theorem mem_upIts {N:Bch} {lv:List Bool} {a:Nat} {xs:List (List UInt8)} {ks:List Nat} {x:It}:x ∈ upIts N lv a xs ks ↔ ∃ k ∈ ks,srvD N lv k=true∧x=⟨(k:Int),(a:Int),xs.getD k []⟩:=by
 unfold upIts
 simp only [List.mem_map,List.mem_filter]
 constructor
 ·rintro ⟨k,⟨h1,h2⟩,e⟩;exact ⟨k,h1,h2,e.symm⟩
 ·rintro ⟨k,h1,h2,e⟩;exact ⟨k,⟨h1,h2⟩,e.symm⟩
section
variable {N:Bch} {lv:List Bool} {nn l c:Int} {ρ D F W k:Nat} {x:List UInt8}
def ksL (l:Int) (D F W k:Nat):List Nat:=roS D F k::roS D F W::if l=6 then [roS D F (W + 1)] else []
theorem ksL_facts (gr:Gr nn l c (ρ:Int) D F W) (hk:k < W):(ksL l D F W k).Nodup∧(ksL l D F W k).length ≤ 3∧(∀ i ∈ ksL l D F W k,i < D)∧(∀ i,i < D→i ∉ ksL l D F W k→roI D F i < W∧roI D F i ≠ k):=by
 have hF:=gr.hF;have hW:=gr.hW;have hlv:=gr.lv
 have a1:=roS_lt (D:=D) (F:=F) (k:=k) hF (by omega)
 have a2:=roS_lt (D:=D) (F:=F) (k:=W) hF (by omega)
 have n1:roS D F k ≠ roS D F W:=fun e=>by have:=roS_inj hF (by omega) (by omega) e;omega
 have back:∀ i,i < D→∀ j,j < D→i ≠ roS D F j→roI D F i ≠ j:=fun i hi j hj h e=>h (by rw [← e,roS_roI hF hi])
 rcases hlv with ⟨rfl,hD⟩ | ⟨rfl,hD⟩
 ·refine ⟨?_,?_,?_,?_⟩ <;> unfold ksL <;> rw [if_neg (by decide)]
  ·simp [n1]
  ·simp
  ·intro i hi;simp at hi;rcases hi with rfl | rfl <;> assumption
  ·intro i hi h
   simp only [List.mem_cons,List.not_mem_nil,or_false,not_or] at h
   have b1:=back i hi k (by omega) h.1
   have b2:=back i hi W (by omega) h.2
   have b3:=roI_lt hF hi
   omega
 ·have a3:=roS_lt (D:=D) (F:=F) (k:=W + 1) hF (by omega)
  have n2:roS D F k ≠ roS D F (W + 1):=fun e=>by have:=roS_inj hF (by omega) (by omega) e;omega
  have n3:roS D F W ≠ roS D F (W + 1):=fun e=>by have:=roS_inj hF (by omega) (by omega) e;omega
  refine ⟨?_,?_,?_,?_⟩ <;> unfold ksL <;> rw [if_pos rfl]
  ·simp [n1,n2,n3]
  ·simp
  ·intro i hi;simp at hi;rcases hi with rfl | rfl | rfl <;> assumption
  ·intro i hi h
   simp only [List.mem_cons,List.not_mem_nil,or_false,not_or] at h
   have b1:=back i hi k (by omega) h.1
   have b2:=back i hi W (by omega) h.2.1
   have b4:=back i hi (W + 1) (by omega) h.2.2
   have b3:=roI_lt hF hi
   omega
theorem fill_else (gr:Gr nn l c (ρ:Int) D F W) (hk:k < W) {rs:List (List UInt8)} (hrs:rs.length=W) {i:Nat} (hi:i < D) (h:i ∉ ksL l D F W k):(fillL D F (rs.set k x)).getD i []=(fillL D F rs).getD i []:=by
 obtain ⟨h1,h2⟩:=(ksL_facts gr hk).2.2.2 i hi h
 rw [fillL_get gr.hF hi,fillL_get gr.hF hi,allL_data (by rw [List.length_set];omega),allL_data (by omega),getD_set_other (Ne.symm h2)]
theorem set_32 {rs:List (List UInt8)} (ha:∀ y ∈ rs,y.length=32) (hx:x.length=32):∀ y ∈ rs.set k x,y.length=32:=fun y hy=>by
 rcases List.mem_or_eq_of_mem_set hy with h | h
 ·exact ha y h
 ·rw [h];exact hx
theorem up_at (gr:Gr nn l c (ρ:Int) D F W) (hk:k < W) (hx:x.length=32) {rs:List (List UInt8)} (hE:srdE N lv l (D:Int) c (ρ:Int)=0∧srdL N lv l (D:Int) c (ρ:Int)=rs) :
    upE N lv l (D:Int) c (plN l (D:Int) c (ρ:Int) (k:Int)) x=0∧upL N lv l (D:Int) c (plN l (D:Int) c (ρ:Int) (k:Int)) x=upIts N lv (36 + ρ) (fillL D F (rs.set k x)) (ksL l D F W k)∧upX N lv l (D:Int) c (plN l (D:Int) c (ρ:Int) (k:Int)) x=rs.set k x:=by
 obtain ⟨h1,h2,h3,h4⟩:=num_place gr hk
 have e0:upE N lv l (D:Int) c (plN l (D:Int) c (ρ:Int) (k:Int)) x=0:=by
  unfold upE;rw [if_neg (by omega),if_neg (by rw [h1];decide),h3];exact hE.1
 have eX:upX N lv l (D:Int) c (plN l (D:Int) c (ρ:Int) (k:Int)) x=rs.set k x:=by unfold upX;rw [h3,h4,hE.2]
 refine ⟨e0,?_,eX⟩
 unfold upL
 rw [if_neg (by rw [e0];decide),eX,h3,gr.eD,gr.eF]
 have hp:=gr.R.pP
 have hq:=gr.R.pQ
 rw [gr.eD,gr.eF,gr.eW] at hp hq
 have eK:upK l (D:Int) c (plN l (D:Int) c (ρ:Int) (k:Int))=ksL l D F W k:=by
  unfold upK ksL
  rw [h2,h3,hp,hq]
  by_cases h6:l=6
  ·rw [if_pos h6,if_pos h6,if_pos h6];rfl
  ·rw [if_neg h6,if_neg h6];rfl
 rw [eK];rfl
theorem up_lost (gr:Gr nn l c (ρ:Int) D F W) (hk:k < W) (hx:x.length=32):upE N lv l (D:Int) c (plN l (D:Int) c (ρ:Int) (k:Int)) x=srdE N lv l (D:Int) c (ρ:Int):=by
 obtain ⟨h1,h2,h3,h4⟩:=num_place gr hk
 unfold upE;rw [if_neg (by omega),if_neg (by rw [h1];decide),h3]
end
def only (N:Bch) (lv:List Bool):Bch:={ N with D:=fun i=>if srvD N lv i=true then N.D i else Dsk.failed }
theorem only_srv (N:Bch) (lv:List Bool) (i:Nat):srvD (only N lv) lv i=srvD N lv i:=by
 cases h:srvD N lv i with
 | true =>
   obtain ⟨h1,h2,h3⟩:=srvD_yes h
   exact srvD_mk h1 h2 (by show Dsk.f (if srvD N lv i=true then N.D i else Dsk.failed)=false;rw [if_pos h];exact h3)
 | false =>
   refine srvD_no fun ⟨_,_,h3⟩=>?_
   have:Dsk.f (if srvD N lv i=true then N.D i else Dsk.failed)=false:=h3
   rw [if_neg (by rw [h];decide)] at this
   cases this
theorem only_D {N:Bch} {lv:List Bool} {i:Nat} (h:srvD N lv i=true):(only N lv).D i=N.D i:=if_pos h
theorem only_ss (N:Bch) (lv:List Bool) (a D:Nat):ssL (only N lv) lv a D=ssL N lv a D:=ext_getD (by rw [ssL_len,ssL_len]) fun i hi=>by
 rw [ssL_len] at hi
 rw [ssL_get hi,ssL_get hi,only_srv]
 split
 ·next h=>rw [only_D h]
 ·rfl
theorem only_any (N:Bch) (lv:List Bool) (k:Nat):anyS (only N lv) lv k=anyS N lv k:=by
 unfold anyS;congr 1;funext i;exact only_srv N lv i
theorem only_srd (N:Bch) (lv:List Bool) (l d c r:Int):srdE (only N lv) lv l d c r=srdE N lv l d c r∧srdL (only N lv) lv l d c r=srdL N lv l d c r:=by
 have e:srdE (only N lv) lv l d c r=srdE N lv l d c r:=by
  unfold srdE;rw [only_ss,only_any];rfl
 refine ⟨e,?_⟩
 unfold srdL;rw [e,only_ss]
structure Stl (N:Bch) (D:Nat) (lv:List Bool) (fl:Nat→List (List UInt8)):Prop where
 n:N.n=D
 good:GoodB N
 at':∀ i,i < D→∀ t,t < 16→srvD N lv i=true→secAt (N.D i).now (36 + t)=(fl t).getD i []
theorem Stl.std {N:Bch} {D:Nat} {lv:List Bool} {fl:Nat→List (List UInt8)} (h:Stl N D lv fl):Std (only N lv) D D fl:=by
 refine ⟨h.n,h.good.dn,fun i hi t ht hf=>?_⟩
 have hs:srvD N lv i=true:=by
  rw [← Bool.not_eq_false]
  intro e
  have:Dsk.f (if srvD N lv i=true then N.D i else Dsk.failed)=false:=hf
  rw [if_neg (by rw [e];decide)] at this
  cases this
 rw [only_D hs]
 exact h.at' i hi t ht hs
theorem Fld.stl {N:Bch} {D:Nat} {fl:Nat→List (List UInt8)} (h:Fld N D D fl 16 0) (lv:List Bool):Stl N D lv fl :=
 ⟨h.gd.n,⟨h.gd.dn,h.gd.lf,fun j hj=>h.gd.ok j (by rw [h.gd.n] at hj;exact hj),fun j hj=>h.gd.ps j (by rw [h.gd.n] at hj;exact hj)⟩,fun i hi t ht _=>h.all hi ht⟩
section
variable {N:Bch} {lv:List Bool} {nn l c:Int} {ρ D F W k:Nat} {fl:Nat→List (List UInt8)} {rs:List (List UInt8)}
theorem Stl.told (h:Stl N D lv fl) (gr:Gr nn l c (ρ:Int) D F W) (hrs:rs.length=W) (ha:∀ x ∈ rs,x.length=32) (hfl:fl ρ=fillL D F rs) :
    if (roTake l (D:Int) c (ρ:Int) (ssL N lv (36 + ρ) D)).isSome=true then srdE N lv l (D:Int) c (ρ:Int)=0∧srdL N lv l (D:Int) c (ρ:Int)=rs else srdE N lv l (D:Int) c (ρ:Int)=7∧srdL N lv l (D:Int) c (ρ:Int)=[]:=by
 have:=h.std.told gr hrs ha hfl lv
 rwa [only_ss,(only_srd N lv _ _ _ _).1,(only_srd N lv _ _ _ _).2] at this
theorem Stl.ok (h:Stl N D lv fl) (gr:Gr nn l c (ρ:Int) D F W) (hrs:rs.length=W) (ha:∀ x ∈ rs,x.length=32) (hfl:fl ρ=fillL D F rs) (hc:((cntB D (fun i=>!srvD N lv i):Nat):Int) ≤ l - 4) :
    srdE N lv l (D:Int) c (ρ:Int)=0∧srdL N lv l (D:Int) c (ρ:Int)=rs:=by
 have:=h.std.ok (lv:=lv) gr hrs ha hfl (by rw [cntB_congr (b':=fun i=>!srvD N lv i) fun i _=>by rw [only_srv]];exact hc)
 rwa [(only_srd N lv _ _ _ _).1,(only_srd N lv _ _ _ _).2] at this
end
theorem liveD_nat (n:Nat) (lv:List Bool) (i:Nat):liveD n lv (i:Int)=(decide (i < n) && lv.getD i false):=by
 unfold liveD
 rw [Int.toNat_natCast]
 congr 1
 exact decide_eq_decide.2 (by omega)
theorem srv_live {N:Bch} {lv:List Bool} {i:Nat} (h:srvD N lv i=true):liveD N.n lv (i:Int)=true∧(N.D i).f=false:=by
 obtain ⟨h1,h2,h3⟩:=srvD_yes h
 exact ⟨by rw [liveD_nat,decide_eq_true h1,h2];rfl,h3⟩
theorem put_data {N:Bch} {lv:List Bool} {s:Int} {l:List It} (hg:GoodB N) (hk:recOk s l=true):∀ j,j < N.n→(N.D j).f=false→∀ k,6 ≤ k→k < 52→secAt ((putS N lv s l).2.D j).now k=secAt (N.D j).now k:=fun j hj hf k h6 hk52=>by
 obtain ⟨h0,g⟩:=settle_good hg (fit_put (lv:=lv) hk)
 have e:putS N lv s l=settleS N (putTo N.n lv (recB s l) N.n):=if_pos hk
 have h4:=((sect_iff _).1 (sect_recB hk)).1
 rw [e,g.sec j hj hf k hk52]
 refine lastI_none fun x hx he=>?_
 obtain ⟨j',k',_,hk',_,rfl⟩:=mem_put.1 hx
 have h2:((2 + k':Nat):Int)=(k:Int):=he.2
 omega
end Go.Proofs.YtenkkdnepmoihaaGreatDoor
end
section
set_option maxRecDepth 20000
set_option linter.unusedVariables false
set_option linter.unusedSimpArgs false
namespace Go.Proofs.YtenkkdnepmoihaaGreatDoor
open Go.RowKit
structure UpdP:Prop where
 plan:∀ (W w:World) (b:Nat) (H:BH) (N:Bch),BP W w b H N→∀ (lv:List Bool) (LA:Option Addr) (ln lc:Nat),ln=lv.length→RdOX (BF b H N.n) w LA lv →
  ∀ l d c n:Int,i64B l→i64B d→i64B c→i64B n→∀ (XA:Option Addr) (xn xc:Nat) (x:List UInt8),x.length=xn→xn ≤ xc→RdB w w.heap.size XA x→∀ s:Int,i64B s →
  (upE N lv l d c n x=0→fillOk l d c (plOfR l d c n) (upX N lv l d c n x)=true) →
  Calls Tryz.prog 23 #[.pointer (some ⟨b,0,none⟩),.slice LA ln lc,.agg #[.int .i64 l,.int .i64 d,.int .i64 c],.int .i64 n,.slice XA xn xc,.int .i64 s] w fun e w'=>∃ A c',e=.returned (.tuple #[.agg #[.int .i64 (upS N lv l d c n x s),.slice A (upL N lv l d c n x).length c'],.int .i64 (upE N lv l d c n x)])∧(upL N lv l d c n x).length ≤ c'∧OwIt 92 w' w.heap.size w.heap.size (.slice A (upL N lv l d c n x).length c') (upL N lv l d c n x)∧Below w.heap.size w w'
structure UpdC:Prop where
 do_:∀ (W w:World) (b:Nat) (H:BH) (N:Bch),BP W w b H N→TabOk W→∀ (lv:List Bool) (LA:Option Addr) (ln lc:Nat),ln=lv.length→RdOX (BF b H N.n) w LA lv →
  ∀ l d c n:Int,i64B l→i64B d→i64B c→i64B n→∀ (XA:Option Addr) (xn xc:Nat) (x:List UInt8),x.length=xn→xn ≤ xc→RdB w w.heap.size XA x→∀ s:Int,i64B s →
  (upE N lv l d c n x=0→fillOk l d c (plOfR l d c n) (upX N lv l d c n x)=true)→(∀ i,i < N.n→(N.D i).ps.length ≤ 900000)→N.done ≤ 900000 →
  Calls Tryz.prog 15 #[.pointer (some ⟨b,0,none⟩),.slice LA ln lc,.agg #[.int .i64 l,.int .i64 d,.int .i64 c],.int .i64 n,.slice XA xn xc,.int .i64 s] w fun e w'=>e=.returned (.int .i64 (doS N lv l d c n x s).1)∧BC W w w' b H N.n (doS N lv l d c n x s).2
 empty:∀ (W w:World) (b:Nat) (H:BH) (N:Bch),BP W w b H N→TabOk W→∀ (lv:List Bool) (LA:Option Addr) (ln lc:Nat),ln=lv.length→RdOX (BF b H N.n) w LA lv→∀ s:Int,i64B s →
  (∀ i,i < N.n→(N.D i).ps.length ≤ 900000)→N.done ≤ 900000 →
  Calls Tryz.prog 20 #[.pointer (some ⟨b,0,none⟩),.slice LA ln lc,.int .i64 s] w fun e w'=>e=.returned (.int .i64 (putS N lv s []).1)∧BC W w w' b H N.n (putS N lv s []).2
structure KU (W w:World) (b:Nat) (H:BH) (N:Bch) (K:List (Nat × Obj)) (R:List (Option Addr × List (List UInt8))) (S:List (Option Addr × List UInt8)) (I:List (Option Addr × List It)):Prop where
 ks:KS W w b H N K R S
 it:∀ p ∈ I,RdIF w (BF b H N.n) p.1 p.2
section
variable {W w w':World} {b:Nat} {H:BH} {N:Bch} {K:List (Nat × Obj)} {R:List (Option Addr × List (List UInt8))} {S:List (Option Addr × List UInt8)} {I:List (Option Addr × List It)}
theorem KS.ku (h:KS W w b H N K R S):KU W w b H N K R S []:=⟨h,fun _ hp=>absurd hp (by simp)⟩
theorem bnewI {w:World} {b:Nat} {H H':BH} {n:Nat} (m:BNew w b H H' n):∀ k,k < w.heap.size→BF b H' n k→BF b H n k:=fun k hk e=>(m k e).elim id fun q=>absurd q (by omega)
theorem KU.bc (h:KU W w b H N K R S I) {N':Bch} (hc:BC W w w' b H N.n N') (hn:N'.n=N.n):∃ H',KU W w' b H' N' K R S I:=by
 obtain ⟨H',a,c,m⟩:=hc
 have hx:KX W w' b H' N' K:=by
  refine ⟨a,fun p hp=>?_⟩
  obtain ⟨h1,h2,h3⟩:=h.ks.kx.kp p hp
  have hl:=(Array.getElem?_eq_some_iff.1 h1).1
  exact ⟨(c.block _ hl h2).trans h1,by rw [hn];exact BC.off m hl h2,h3⟩
 refine ⟨H',⟨hx,fun p hp=>by rw [hn];exact (h.ks.rx p hp).chg c (bnew_weak m),fun p hp=>by rw [hn];exact (h.ks.sx p hp).chg c (bnew_weak m)⟩,fun p hp=>?_⟩
 rw [hn]
 have h0:RdIF w (fun k=>BF b H' N.n k∨BF b H N.n k) p.1 p.2:=(h.it p hp).off fun k hk e=>e.elim (bnewI m k hk) id
 exact (h0.chg c fun k hk e=>.inr e).off fun k hk e=>.inl e
theorem KU.own (h:KU W w b H N K R S I) (hb:Below w.heap.size w w') {e:TypeId} {A:Option Addr} {l:List It} {c:Nat} (ho:OwIt e w' w.heap.size w.heap.size (.slice A l.length c) l):KU W w' b H N K R S ((A,l)::I):=by
 refine ⟨h.ks.below hb,fun p hp=>?_⟩
 rcases List.mem_cons.1 hp with rfl | hp
 ·have hF:∀ k,w.heap.size ≤ k→¬ BF b H N.n k:=fun k hk e=>by have:=h.ks.flt k e;omega
  obtain ⟨A',c',e',_,hr⟩:=ho.rdF hF hF
  injection e' with e1 _ _
  rw [e1];exact hr
 ·exact (h.it p hp).below hb
theorem KU.less (h:KU W w b H N K R S I) {K':List (Nat × Obj)} {R':List (Option Addr × List (List UInt8))} {S':List (Option Addr × List UInt8)} {I':List (Option Addr × List It)} (hK:∀ p ∈ K',p ∈ K) (hR:∀ p ∈ R',p ∈ R) (hS:∀ p ∈ S',p ∈ S) (hI:∀ p ∈ I',p ∈ I):KU W w b H N K' R' S' I' :=
 ⟨h.ks.less hK hR hS,fun p hp=>h.it p (hI p hp)⟩
section
variable (h:KS W w b H N K R S)
include h
theorem ks_empty (hu:UpdC) (ht:TabOk W) (lv:List Bool) (A:Option Addr) (m cp:Nat) (hm:m=lv.length) (hv:RdOX (BF b H N.n) w A lv) (s:Int) (hs:-9223372036854775808 ≤ s∧s ≤ 9223372036854775807) (hps:∀ i,i < N.n→(N.D i).ps.length ≤ 900000) (hdn:N.done ≤ 900000) :
    Calls Tryz.prog 20 #[.pointer (some ⟨b,0,none⟩),.slice A m cp,.int .i64 s] w fun e w'=>e=.returned (.int .i64 (putS N lv s []).1)∧∃ H',KS W w' b H' (putS N lv s []).2 K R S:=by
 refine (hu.empty W w b H N h.bp ht lv A m cp hm hv s hs hps hdn).mono ?_
 rintro e w' ⟨rfl,hc⟩
 obtain ⟨H',k⟩:=h.bc hc (put_n _ _ _ _)
 exact ⟨rfl,H',k⟩
end
end
end Go.Proofs.YtenkkdnepmoihaaGreatDoor
end
section
set_option linter.unusedVariables false
set_option linter.unusedSimpArgs false
namespace Go.Proofs.YtenkkdnepmoihaaGreatDoor
def flG (l c:Int) (D:Nat) (ds:Nat→List (List UInt8)):Nat→List (List UInt8):=fun t=>fillL D (roF l (D:Int) c (t:Int)) (ds t)
def dsSet (ds:Nat→List (List UInt8)) (ρ k:Nat) (x:List UInt8):Nat→List (List UInt8):=fun t=>if t=ρ then (ds ρ).set k x else ds t
structure Dat (W:Nat) (ds:Nat→List (List UInt8)):Prop where
 len:∀ t,(ds t).length=W
 m:∀ t,∀ x ∈ ds t,x.length=32
theorem dat_rows (zs:List Int) (W:Nat):Dat W (fun t=>datL zs t W):=⟨fun t=>datL_len zs t W,fun t=>datL_mem⟩
theorem Dat.set {W:Nat} {ds:Nat→List (List UInt8)} (h:Dat W ds) (ρ k:Nat) {x:List UInt8} (hx:x.length=32):Dat W (dsSet ds ρ k x):=by
 refine ⟨fun t=>?_,fun t y hy=>?_⟩
 ·unfold dsSet;split
  ·rw [List.length_set];exact h.len _
  ·exact h.len _
 ·unfold dsSet at hy
  split at hy
  ·exact set_32 (h.m ρ) hx y hy
  ·exact h.m t y hy
theorem dsSet_get {W:Nat} {ds:Nat→List (List UInt8)} (h:Dat W ds) {ρ k:Nat} {x:List UInt8} {t j:Nat} (hk:k < W):(dsSet ds ρ k x t).getD j []=if t=ρ∧j=k then x else (ds t).getD j []:=by
 unfold dsSet
 by_cases e:t=ρ
 ·subst e
  rw [if_pos rfl]
  by_cases e2:j=k
  ·subst e2;rw [if_pos ⟨rfl,rfl⟩,getD_set_same (by rw [h.len];exact hk)]
  ·rw [if_neg (fun q=>e2 q.2),getD_set_other (Ne.symm e2)]
 ·rw [if_neg e,if_neg (fun q=>e q.1)]
theorem num_of {nn l c:Int} {r:Int} {D F W:Nat} (gr:Gr nn l c r D F W) {n:Int} (h0:0 ≤ n) (h1:n < gCap l (D:Int) c):∃ ρ k:Nat,ρ < 16∧k < W∧n=plN l (D:Int) c (ρ:Int) (k:Int)∧plOfR l (D:Int) c n=(ρ:Int)∧plOfD l (D:Int) c n=((roS D (roF l (D:Int) c (ρ:Int)) k:Nat):Int):=by
 have hg:=(plOk_yes gr.ok).1
 have hwd:=gr.wd
 have hw:gWid l (D:Int) c=(D:Int) - (l - 4):=gWid_yes hg
 obtain ⟨r0,r1,k0,k1,_,hN⟩:=of_row hg h0 h1
 obtain ⟨ρ,hρ⟩:=Int.eq_ofNat_of_zero_le r0
 obtain ⟨k,hk⟩:=Int.eq_ofNat_of_zero_le k0
 rw [hρ,hk] at hN
 have hk':k < W:=by omega
 have hρ':ρ < 16:=by omega
 obtain ⟨_,p2,p3,_⟩:=num_place (gr.at hρ') hk'
 rw [hN] at p2 p3
 exact ⟨ρ,k,hρ',hk',hN.symm,p3,p2⟩
structure Arr (N:Bch) (D:Nat) (lv:List Bool) (l c:Int) (W:Nat) (ds:Nat→List (List UInt8)):Prop where
 st:Stl N D lv (flG l c D ds)
 da:Dat W ds
theorem Fld.arr {N:Bch} {D:Nat} {l c:Int} {W:Nat} {zs:List Int} (h:Fld N D D (rowL l c D W zs) 16 0) (lv:List Bool):Arr N D lv l c W (fun t=>datL zs t W):=⟨h.stl lv,dat_rows zs W⟩
section
variable {N:Bch} {D:Nat} {lv:List Bool} {nn l c r:Int} {F W ρ k:Nat} {ds:Nat→List (List UInt8)} {x:List UInt8} {s:Int}
theorem Arr.ok (h:Arr N D lv l c W ds) (gr:Gr nn l c r D F W) (hρ:ρ < 16) (hc:((cntB D (fun i=>!srvD N lv i):Nat):Int) ≤ l - 4):srdE N lv l (D:Int) c (ρ:Int)=0∧srdL N lv l (D:Int) c (ρ:Int)=ds ρ :=
 h.st.ok (gr.at hρ) (h.da.len ρ) (h.da.m ρ) rfl hc
theorem Arr.told (h:Arr N D lv l c W ds) (gr:Gr nn l c r D F W) (hρ:ρ < 16):(srdE N lv l (D:Int) c (ρ:Int)=0∧srdL N lv l (D:Int) c (ρ:Int)=ds ρ)∨(srdE N lv l (D:Int) c (ρ:Int)=7∧srdL N lv l (D:Int) c (ρ:Int)=[]):=by
 have:=h.st.told (gr.at hρ) (h.da.len ρ) (h.da.m ρ) rfl
 split at this
 ·exact .inl this
 ·exact .inr this
theorem Arr.fok (h:Arr N D lv l c W ds) (gr:Gr nn l c r D F W) (hx:x.length=32) {n:Int} (he:upE N lv l (D:Int) c n x=0):fillOk l (D:Int) c (plOfR l (D:Int) c n) (upX N lv l (D:Int) c n x)=true:=by
 have hn:plOfOk l (D:Int) c n=true:=by
  rw [← Bool.not_eq_false];intro e
  unfold upE at he;rw [if_neg (by omega),if_pos e] at he;cases he
 obtain ⟨h0,h1⟩:=plOfOk_yes hn
 obtain ⟨ρ,k,hρ,hk,rfl,hR,_⟩:=num_of gr h0 h1
 have hE:srdE N lv l (D:Int) c (ρ:Int)=0:=by rw [← up_lost (gr.at hρ) hk hx];exact he
 rcases h.told gr hρ with q | q
 ·rw [(up_at (gr.at hρ) hk hx q).2.2,hR]
  exact (gr.at hρ).fok (by rw [List.length_set];exact h.da.len ρ) (set_32 (h.da.m ρ) hx)
 ·rw [hE] at q;cases q.1
end
end Go.Proofs.YtenkkdnepmoihaaGreatDoor
end
section
set_option linter.unusedVariables false
set_option linter.unusedSimpArgs false
namespace Go.Proofs.YtenkkdnepmoihaaGreatDoor
structure Md (N M:Bch) (l:List It):Prop where
 n:M.n=N.n
 f:∀ j,j < N.n→(M.D j).f=false
 ok:∀ j,j < N.n→(M.D j).Ok
 S:∀ j,j < N.n→(M.D j).S=(N.D j).now
 ps:∀ j,j < N.n→∀ p ∈ (M.D j).ps,∃ x ∈ l,x.d=(j:Int)∧x.a=(p.1:Int)∧x.b=p.2
theorem n05:(0:Int) ≠ 5:=by decide
theorem n65:(6:Int) ≠ 5:=by decide
theorem n60:(6:Int) ≠ 0:=by decide
theorem wr_one {M:Bch} {x:It} {n:Nat} (hn:M.n=n) (hx:0 ≤ x.d∧x.d < (n:Int)∧0 ≤ x.a∧x.a < 52∧x.b.length=32) (hf:(M.D x.d.toNat).f=false) (hdn:M.down=false) (hl:M.left ≠ 0):itWr M x=(0,(M.set x.d.toNat ((M.D x.d.toNat).write x.a.toNat x.b)).count):=by
 have h:=Bch.write_ok (N:=M) (d:=x.d.toNat) (k:=x.a.toNat) (x:=x.b) (by omega) (by omega) hx.2.2.2.2 hf hdn hl
 rw [show ((x.d.toNat:Nat):Int)=x.d by omega,show ((x.a.toNat:Nat):Int)=x.a by omega] at h
 exact Prod.ext h.1 h.2
theorem wr_cut {M:Bch} {x:It} {n:Nat} (hn:M.n=n) (hx:0 ≤ x.d∧x.d < (n:Int)∧0 ≤ x.a∧x.a < 52∧x.b.length=32) (hf:(M.D x.d.toNat).f=false) (hdn:M.down=false) (hl:M.left=0):itWr M x=(6,{ M with down:=true }):=by
 have hp:M.powE x.d=0:=Bch.powE_ok (Bch.pickE_ok (by omega) (by omega)) hdn
 have ht:takeE (M.at_ x.d).f x.a x.b.length=0:=by
  rw [hx.2.2.2.2,show (M.at_ x.d).f=false from hf];exact takeE_ok (by omega) (by omega)
 refine Prod.ext ?_ ?_
 ·show M.writeE x.d x.a x.b.length=6
  unfold Bch.writeE Bch.countE
  rw [if_neg (by simp [hp]),if_neg (fun h=>h ht),if_pos hl]
 ·show M.write x.d x.a x.b=_
  unfold Bch.write
  rw [if_neg (by simp [hp]),if_neg (fun h=>h ht),if_pos hl]
  unfold Bch.count;rw [if_pos hl]
theorem count_pos {M:Bch} {v:Nat} (h:M.left=(v:Int)) (hv:0 < v):M.count={ M with done:=M.done + 1,left:=(v:Int) - 1 }:=by
 unfold Bch.count
 rw [if_neg (by omega),if_neg (by omega),h]
section
variable {N:Bch} {l:List It} (hg:GoodB N) (hf:∀ j,j < N.n→(N.D j).f=false) (hl:FitI N.n l)
include hg hf hl
theorem md_run:∀ i,i ≤ l.length→Md N (runTo itWr l N i).2 (l.take i)
 | 0,_=>⟨rfl,hf,hg.ok,fun j hj=>by
     show (N.D j).S=nowOf (N.D j).S (N.D j).ps
     rw [hg.ps j hj];rfl,fun j hj p hp=>by
     have h:=hg.ps j hj
     rw [show (runTo itWr l N 0).2.D j=N.D j from rfl,h] at hp;cases hp⟩
 | i + 1,hi=>by
   have m:=md_run i (by omega)
   obtain ⟨h0,g⟩:=wrote_goodI hg hl i (by omega)
   have hx:=hl _ (itN_mem (l:=l) (k:=i) (by omega))
   have htk:=its_take (l:=l) (i:=i) (by omega)
   generalize hxx:itN l i=x at hx htk
   have hdn:x.d.toNat < N.n:=by omega
   have hw:=wr_one (M:=(runTo itWr l N i).2) (x:=x) m.n hx (m.f _ hdn) g.dn (by rw [g.lf];decide)
   rw [runTo_goes h0 (by rw [hxx,hw];exact n05),hxx,hw,htk]
   have hD:∀ j,((runTo itWr l N i).2.set x.d.toNat (((runTo itWr l N i).2.D x.d.toNat).write x.a.toNat x.b)).count.D j=if j=x.d.toNat then ((runTo itWr l N i).2.D x.d.toNat).write x.a.toNat x.b else (runTo itWr l N i).2.D j:=fun j=>by
    rw [Bch.count_D];rfl
   refine ⟨(Bch.count_n _).trans m.n,fun j hj=>?_,fun j hj=>?_,fun j hj=>?_,fun j hj p hp=>?_⟩
   ·dsimp only;rw [hD j];split
    ·exact m.f _ hdn
    ·exact m.f j hj
   ·dsimp only;rw [hD j];split
    ·exact (m.ok _ hdn).write (by omega) hx.2.2.2.2
    ·exact m.ok j hj
   ·dsimp only;rw [hD j];split
    ·next e=>rw [e];exact m.S _ hdn
    ·exact m.S j hj
   ·dsimp only at hp
    rw [hD j] at hp
    have old:∀ q ∈ ((runTo itWr l N i).2.D j).ps,∃ y ∈ l.take i ++ [x],y.d=(j:Int)∧y.a=(q.1:Int)∧y.b=q.2:=fun q hq=>by
     obtain ⟨y,hy,e⟩:=m.ps j hj q hq
     exact ⟨y,List.mem_append.2 (.inl hy),e⟩
    by_cases e:j=x.d.toNat
    ·rw [if_pos e] at hp
     rcases List.mem_append.1 hp with h1 | h1
     ·rw [← e] at h1;exact old p h1
     ·rw [List.mem_singleton.1 h1]
      exact ⟨x,List.mem_append.2 (.inr (List.mem_singleton.2 rfl)),by omega,by show x.a=((x.a.toNat:Nat):Int);omega,rfl⟩
    ·rw [if_neg e] at hp;exact old p hp
theorem lim_run (v:Nat):∀ i,i ≤ l.length→i ≤ v→runTo itWr l { N with left:=(v:Int) } i=(0,{ (runTo itWr l N i).2 with left:=(v:Int) - i })
 | 0,_,_=>by show (0,_)=_;simp [runTo]
 | i + 1,hi,hv=>by
   have ih:=lim_run v i (by omega) (by omega)
   have m:=md_run hg hf hl i (by omega)
   obtain ⟨h0,g⟩:=wrote_goodI hg hl i (by omega)
   have hx:=hl _ (itN_mem (l:=l) (k:=i) (by omega))
   generalize hxx:itN l i=x at hx
   have hdn:x.d.toNat < N.n:=by omega
   have hw:=wr_one (M:=(runTo itWr l N i).2) (x:=x) m.n hx (m.f _ hdn) g.dn (by rw [g.lf];decide)
   have hw2:=wr_one (M:={ (runTo itWr l N i).2 with left:=(v:Int) - i }) (x:=x) m.n hx (m.f _ hdn) g.dn (by show (v:Int) - i ≠ 0;omega)
   rw [runTo_goes (l:=l) (N:={ N with left:=(v:Int) }) (i:=i) (by rw [ih]) (by rw [ih,hxx];dsimp only;rw [hw2];exact n05),runTo_goes h0 (by rw [hxx,hw];exact n05),ih,hxx,hw]
   dsimp only
   rw [hw2]
   refine Prod.ext rfl ?_
   dsimp only
   have c1:((runTo itWr l N i).2.set x.d.toNat (((runTo itWr l N i).2.D x.d.toNat).write x.a.toNat x.b)).count=_:=Bch.count_free g.lf
   have c2:(Bch.set { (runTo itWr l N i).2 with left:=(v:Int) - i } x.d.toNat (((runTo itWr l N i).2.D x.d.toNat).write x.a.toNat x.b)).count=_:=count_pos (v:=v - i) (by show (v:Int) - i=_;omega) (by omega)
   rw [c1]
   refine c2.trans ?_
   rw [show (((v - i:Nat):Int) - 1)=(v:Int) - ((i + 1:Nat):Int) by omega]
   rfl
theorem lim_stop {v:Nat} (hv:v < l.length):wroteI { N with left:=(v:Int) } l=(6,{ (runTo itWr l N v).2 with left:=0,down:=true }):=by
 have ih:=lim_run hg hf hl v v (by omega) (Nat.le_refl _)
 have m:=md_run hg hf hl v (by omega)
 obtain ⟨h0,g⟩:=wrote_goodI hg hl v (by omega)
 have hx:=hl _ (itN_mem (l:=l) (k:=v) hv)
 have hdn:(itN l v).d.toNat < N.n:=by omega
 have hw:=wr_cut (M:={ (runTo itWr l N v).2 with left:=(v:Int) - v }) (x:=itN l v) m.n hx (m.f _ hdn) g.dn (by show (v:Int) - v=0;omega)
 have e:runTo itWr l { N with left:=(v:Int) } (v + 1)=(6,{ (runTo itWr l N v).2 with left:=0,down:=true }):=by
  rw [runTo_goes (by rw [ih]) (by rw [ih];dsimp only;rw [hw];exact n65),ih]
  dsimp only
  rw [hw]
  refine Prod.ext rfl ?_
  show ({ (runTo itWr l N v).2 with left:=(v:Int) - v,down:=true }:Bch)=_
  rw [show (v:Int) - v=0 by omega]
 show runTo itWr l { N with left:=(v:Int) } l.length=_
 rw [runTo_stop (i:=v + 1) (by rw [e];exact n60) l.length (by omega),e]
theorem lim_wrote {v:Nat} (hv:l.length ≤ v):wroteI { N with left:=(v:Int) } l=(0,{ (wroteI N l).2 with left:=(v:Int) - l.length }):=lim_run hg hf hl v l.length (Nat.le_refl _) hv
end
theorem fl_left (l:List It) (M:Bch) (z:Int):∀ i,runTo itFl l { M with left:=z } i=((runTo itFl l M i).1,{ (runTo itFl l M i).2 with left:=z })
 | 0=>rfl
 | i + 1=>by
   have ih:=fl_left l M z i
   have hs:∀ (K:Bch) (x:It),itFl { K with left:=z } x=((itFl K x).1,{ (itFl K x).2 with left:=z }):=fun K x=>by
    refine Prod.ext rfl ?_
    show Bch.flush { K with left:=z } x.d={ K.flush x.d with left:=z }
    unfold Bch.flush
    have e:Bch.powE { K with left:=z } x.d=K.powE x.d:=rfl
    rw [e]
    split <;> rfl
   rw [runTo,runTo,ih]
   dsimp only
   rw [hs]
   dsimp only
   repeat' split
   all_goals first | rfl | (exfalso;simp_all)
theorem lim_settle {N:Bch} {l:List It} (hg:GoodB N) (hf:∀ j,j < N.n→(N.D j).f=false) (hl:FitI N.n l) {v:Nat} (hv:l.length ≤ v):settleS { N with left:=(v:Int) } l=(0,{ (settleS N l).2 with left:=(v:Int) - l.length }):=by
 have h0:=(settle_good hg hl).1
 have hw0:=(wrote_goodI hg hl l.length (Nat.le_refl _)).1
 have e:settleS N l=runTo itFl l (wroteI N l).2 l.length:=if_neg (fun h=>h hw0)
 unfold settleS
 rw [lim_wrote hg hf hl hv,if_neg (fun h=>h rfl)]
 dsimp only
 rw [fl_left,if_neg (fun h=>h hw0),← e,h0]
theorem stop_settle {N:Bch} {l:List It} (hg:GoodB N) (hf:∀ j,j < N.n→(N.D j).f=false) (hl:FitI N.n l) {v:Nat} (hv:v < l.length):settleS { N with left:=(v:Int) } l=(6,{ (runTo itWr l N v).2 with left:=0,down:=true }):=by
 unfold settleS
 rw [lim_stop hg hf hl hv,if_pos n60]
theorem lastOf_mem:∀ {ps:List (Nat × List UInt8)} {k:Nat} {x:List UInt8},lastOf ps k=some x→(k,x) ∈ ps
 | [],_,_,h=>by cases h
 | p::ps,k,x,h=>by
   rw [lastOf_cons] at h
   cases e:lastOf ps k with
   | some y=>rw [e] at h;injection h with h;subst h;exact List.mem_cons_of_mem _ (lastOf_mem e)
   | none =>
     rw [e] at h
     dsimp only at h
     split at h
     ·next e2=>injection h with h;subst h e2;exact List.mem_cons_self ..
     ·cases h
theorem kept_mem:∀ {ps:List (Nat × List UInt8)} {ks:List Bool} {p:Nat × List UInt8},p ∈ keptOf ps ks→p ∈ ps
 | [],_,_,h=>by rw [keptOf_zero] at h;cases h
 | _::_,[],_,h=>by rw [keptOf_nil] at h;cases h
 | q::ps,k::ks,p,h=>by
   rw [show keptOf (q::ps) (k::ks)=if k then q::keptOf ps ks else keptOf ps ks from rfl] at h
   split at h
   ·rcases List.mem_cons.1 h with rfl | h
    ·exact List.mem_cons_self ..
    ·exact List.mem_cons_of_mem _ (kept_mem h)
   ·exact List.mem_cons_of_mem _ (kept_mem h)
theorem crash_D {M:Bch} {ks:List Bool} {j:Nat} (hj:j < M.n):(M.crash ks).D j=(M.D j).crash (ks.drop (offs M.D j)):=if_pos hj
theorem Md.crash {N M:Bch} {l:List It} (h:Md N M l) (ks:List Bool) (z:Int) (d:Bool):GoodB (Bch.crash { M with left:=z,down:=d } ks)∧(Bch.crash { M with left:=z,down:=d } ks).n=N.n∧(∀ j,j < N.n→((Bch.crash { M with left:=z,down:=d } ks).D j).f=false) ∧
    ∀ j,j < N.n→∀ k,k < 52→secAt ((Bch.crash { M with left:=z,down:=d } ks).D j).now k=secAt (N.D j).now k∨∃ x ∈ l,x.d=(j:Int)∧x.a=(k:Int)∧secAt ((Bch.crash { M with left:=z,down:=d } ks).D j).now k=x.b:=by
 have hn:∀ {j},j < N.n→j < ({ M with left:=z,down:=d }:Bch).n:=fun hj=>by show _ < M.n;rw [h.n];exact hj
 have hn':∀ {j},j < (Bch.crash { M with left:=z,down:=d } ks).n→j < N.n:=fun {j} hj=>by have:j < M.n:=hj;rw [h.n] at this;exact this
 refine ⟨⟨rfl,rfl,fun j hj=>?_,fun j hj=>?_⟩,h.n,fun j hj=>?_,fun j hj k hk=>?_⟩
 ·rw [crash_D (hn (hn' hj))];exact (h.ok j (hn' hj)).crash _
 ·rw [crash_D (hn (hn' hj))];rfl
 ·rw [crash_D (hn hj)];exact h.f j hj
 ·rw [crash_D (hn hj),Dsk.crash_now]
  show secAt (nowOf (M.D j).S (keptOf (M.D j).ps _)) k=_∨∃ x ∈ l,_∧_∧secAt (nowOf (M.D j).S (keptOf (M.D j).ps _)) k=_
  rw [nowOf_sec (h.ok j hj).S (h.ok j hj).ps.kept k hk]
  cases e:lastOf (keptOf (M.D j).ps (ks.drop (offs M.D j))) k with
  | none=>left;exact h.S j hj ▸ rfl
  | some y =>
    right
    obtain ⟨x,hx,h1,h2,h3⟩:=h.ps j hj _ (kept_mem (lastOf_mem e))
    exact ⟨x,hx,h1,h2,h3.symm⟩
end Go.Proofs.YtenkkdnepmoihaaGreatDoor
end
section
set_option linter.unusedVariables false
set_option linter.unusedSimpArgs false
namespace Go.Proofs.YtenkkdnepmoihaaGreatDoor
theorem flushE_len (D:Dsk):D.flushE.ps.length ≤ D.ps.length:=by
 unfold Dsk.flushE;split
 ·exact Nat.le_refl _
 ·exact Nat.zero_le _
theorem flush_len1 (M:Bch) (d:Int) (j:Nat):((M.flush d).D j).ps.length ≤ (M.D j).ps.length:=by
 unfold Bch.flush;split
 ·exact Nat.le_refl _
 ·show (upd M.D d.toNat _ j).ps.length ≤ _
  by_cases e:j=d.toNat
  ·subst e;rw [upd_same];exact flushE_len _
  ·rw [upd_other _ _ e];exact Nat.le_refl _
theorem flush_done1 (M:Bch) (d:Int):(M.flush d).done=M.done:=by unfold Bch.flush;split <;> rfl
section
variable {N:Bch} {l:List It}
theorem ranF_len (j i:Nat):((runTo itFl l N i).2.D j).ps.length ≤ (N.D j).ps.length:=runTo_any (fun M=>(M.D j).ps.length ≤ (N.D j).ps.length) (Nat.le_refl _) (fun M x h=>Nat.le_trans (flush_len1 M x.d j) h) i
theorem ranF_done (i:Nat):(runTo itFl l N i).2.done=N.done:=runTo_any (fun M=>M.done=N.done) rfl (fun M x h=>(flush_done1 M x.d).trans h) i
theorem settle_len (j:Nat):((settleS N l).2.D j).ps.length ≤ (N.D j).ps.length + l.length:=by
 unfold settleS wroteI;split
 ·exact ran_len j _
 ·exact Nat.le_trans (ranF_len j _) (ran_len j _)
theorem settle_done:(settleS N l).2.done ≤ N.done + l.length:=by
 unfold settleS wroteI;split
 ·exact ran_done _
 ·rw [ranF_done];exact ran_done _
end
theorem put_len (N:Bch) (lv:List Bool) (s:Int) (l:List It) (hn:N.n ≤ 8):(∀ j,((putS N lv s l).2.D j).ps.length ≤ (N.D j).ps.length + 32)∧(putS N lv s l).2.done ≤ N.done + 32:=by
 unfold putS
 split
 ·next hk =>
  have h4:=((sect_iff _).1 (sect_recB hk)).1
  have h1:=putTo_len N.n lv (recB s l) N.n
  have h2:N.n * (recB s l).length ≤ 32:=by rw [h4];omega
  exact ⟨fun j=>Nat.le_trans (settle_len j) (by omega),Nat.le_trans settle_done (by omega)⟩
 ·exact ⟨fun j=>Nat.le_add_right _ _,Nat.le_add_right _ _⟩
theorem app_len (N:Bch) (lv:List Bool) (s:Int) (l:List It):(∀ j,((appS N lv s l).2.D j).ps.length ≤ (N.D j).ps.length + 3)∧(appS N lv s l).2.done ≤ N.done + 3:=by
 unfold appS
 split
 ·next hk =>
  have h3:=((recOk_iff s l).1 hk).1.2.2
  have h4:=List.length_filter_le (liveI N.n lv) l
  exact ⟨fun j=>Nat.le_trans (settle_len j) (by omega),Nat.le_trans settle_done (by omega)⟩
 ·exact ⟨fun j=>Nat.le_add_right _ _,Nat.le_add_right _ _⟩
theorem do_len (N:Bch) (lv:List Bool) (l d c n:Int) (x:List UInt8) (s:Int) (hn:N.n ≤ 8):(∀ j,((doS N lv l d c n x s).2.D j).ps.length ≤ (N.D j).ps.length + 35)∧(doS N lv l d c n x s).2.done ≤ N.done + 35:=by
 obtain ⟨p1,p2⟩:=put_len N lv s (upL N lv l d c n x) hn
 obtain ⟨a1,a2⟩:=app_len (putS N lv s (upL N lv l d c n x)).2 lv s (upL N lv l d c n x)
 unfold doS
 repeat' split
 ·exact ⟨fun j=>Nat.le_add_right _ _,Nat.le_add_right _ _⟩
 ·exact ⟨fun j=>Nat.le_trans (p1 j) (by omega),by omega⟩
 ·exact ⟨fun j=>Nat.le_trans (a1 j) (by have:=p1 j;omega),by omega⟩
end Go.Proofs.YtenkkdnepmoihaaGreatDoor
end
