/- Texts put together: BchCalls, BchWrite. -/
import Derived.Test.YtldfoadildaljaaGreatWmas
section
namespace Go.Proofs.YtldfoadildaljaaGreat
open Go.RowKit
namespace Bch
theorem readE_pow {N:Bch} {d:Int} (k:Int) (h:N.powE d ≠ 0):N.readE d k=N.powE d∧N.read d k=[]:=by
 have e:N.readE d k=N.powE d:=by unfold readE;rw [if_pos h]
 exact ⟨e,by unfold read;rw [e,if_pos h]⟩
theorem readE_dsk {N:Bch} {d:Int} (k:Int) (h:N.powE d=0):N.readE d k=reachE (N.at_ d).f k∧N.read d k=(N.at_ d).readE k:=by
 have e:N.readE d k=reachE (N.at_ d).f k:=by unfold readE;rw [if_neg (by simp [h])]
 refine ⟨e,?_⟩
 unfold read Dsk.readE
 rw [e]
 by_cases c:reachE (N.at_ d).f k=0
 ·rw [if_neg (by simp [c]),if_pos c]
 ·rw [if_pos c,if_neg c]
end Bch
theorem dptr_no (H:BH) {e:Int} (d:Int) (h:e ≠ 0):dptr H e d=.pointer none:=by unfold dptr;rw [if_pos h]
theorem dptr_ok (H:BH) (d:Int):dptr H 0 d=.pointer (some ⟨H.bk d.toNat,0,none⟩):=by unfold dptr;rw [if_neg (by simp)];rfl
section
variable (B b:Nat) (H:BH) (N:Bch) (w:World) (h:BAt w B b H N)
include h
theorem bch_read_any (d k:Int) (hd:i64B d) (hk:i64B k):Calls Tryz.prog 24 #[ptr b,.int .i64 d,.int .i64 k] w fun e w'=>∃ v,e=.returned (.tuple #[v,.int .i64 (N.readE d k)])∧OwB 5 w' w.heap.size v (N.read d k)∧Below w.heap.size w w':=by
 have CP:=Lib.hid (bch_powered_any B b H N w h d hd)
 by_cases h0:N.powE d=0
 ·rw [h0,dptr_ok] at CP
  have hr:=Bch.powE_zero h0
  have hi:=Bch.pickE_zero hr.1
  obtain ⟨e1,e2⟩:=Bch.readE_dsk k h0
  have CD:=dsk_read_any _ _ _ _ w (h.dsk d.toNat (by omega)) k hk
  rw [show N.D d.toNat=N.at_ d from rfl,← e1,← e2] at CD
  have CD:=Lib.hid CD
  generalize N.readE d k=E at CD
  generalize N.read d k=x at CD
  clear h h0 hr hi e1 e2
  generalize H.bk d.toNat=db at CP CD
  unfold ptr at CP ⊢
  go_enter Tryz.func24,Tryz.ntmps24
  go_wp2_with fail
  refine CP.out.mono ?_
  rintro e w' ⟨rfl,rfl⟩
  go_wp2_with fail
  refine CD.out.mono ?_
  rintro e w1 ⟨v,rfl,ho,hb⟩
  go_wp2
  go_ret2
  exact ⟨v,rfl,ho,hb⟩
 ·have HR:=Lib.hid (Bch.readE_pow k h0)
  have hne:(N.powE d != 0)=true:=by rw [bne_iff_ne];exact h0
  rw [dptr_no H d h0] at CP
  generalize N.powE d=E at CP HR hne
  clear h h0
  unfold ptr at CP ⊢
  go_enter Tryz.func24,Tryz.ntmps24
  go_wp2_with fail
  refine CP.out.mono ?_
  rintro e w' ⟨rfl,rfl⟩
  go_wp2
  go_ret2
  exact ⟨_,by rw [HR.out.1];rfl,by rw [HR.out.2];exact OwB.nil _ _ _,Below.refl _ _⟩
theorem bch_failed_any (d:Int) (hd:i64B d):Calls Tryz.prog 89 #[ptr b,.int .i64 d] w fun e w'=>e=.returned (.bool (N.failed d))∧w'=w:=by
 have CP:=Lib.hid (bch_pick_any B b H N w h d hd)
 by_cases h0:N.pickE d=0
 ·rw [h0,dptr_ok] at CP
  have hi:=Bch.pickE_zero h0
  have HE:=Lib.hid (show N.failed d=(N.at_ d).f by unfold Bch.failed;rw [if_neg (by simp [h0])])
  have CD:=Lib.hid (dsk_failed_any _ _ _ _ w (h.dsk d.toNat (by omega)))
  generalize hX:N.D d.toNat=X at CD
  rw [show N.at_ d=X from hX] at HE
  clear h h0 hi hX
  generalize H.bk d.toNat=db at CP CD
  unfold ptr at CP ⊢
  go_enter Tryz.func89,Tryz.ntmps89
  go_wp2_with fail
  refine CP.out.mono ?_
  rintro e w' ⟨rfl,rfl⟩
  go_wp2_with fail
  refine CD.out.mono ?_
  rintro e w1 ⟨rfl,rfl⟩
  go_wp2
  go_ret
  exact ⟨by rw [HE.out];rfl,rfl⟩
 ·have HE:=Lib.hid (show N.failed d=false by unfold Bch.failed;rw [if_pos h0])
  have hne:(N.pickE d == 0)=false:=by rw [beq_eq_false_iff_ne];exact h0
  rw [dptr_no H d h0] at CP
  generalize N.pickE d=E at CP hne
  clear h h0
  unfold ptr at CP ⊢
  go_enter Tryz.func89,Tryz.ntmps89
  go_wp2_with fail
  refine CP.out.mono ?_
  rintro e w' ⟨rfl,rfl⟩
  go_wp2
  go_ret
  exact ⟨by rw [HE.out];rfl,rfl⟩
theorem bch_flush_any (d:Int) (hd:i64B d):Calls Tryz.prog 69 #[ptr b,.int .i64 d] w fun e w'=>e=.returned (.int .i64 (N.flushE d))∧BTo w w' B b H N.n (N.flush d):=by
 have Hh:=Lib.hid h
 have CP:=Lib.hid (bch_powered_any B b H N w h d hd)
 by_cases h0:N.powE d=0
 ·rw [h0,dptr_ok] at CP
  have hi:=Bch.pickE_zero (Bch.powE_zero h0).1
  have HI:=Lib.hid (show d.toNat < N.n by omega)
  have e1:(if (N.at_ d).f=true then (5:Int) else 0)=N.flushE d:=by unfold Bch.flushE;rw [if_neg (show ¬ N.powE d ≠ 0 by simp [h0])]
  have HF:=Lib.hid (show N.flush d=N.set d.toNat (N.at_ d).flushE by unfold Bch.flush;rw [if_neg (by simp [h0])])
  have CD:=dsk_flush_any _ _ _ _ w (h.dsk d.toNat (by omega))
  rw [show N.D d.toNat=N.at_ d from rfl,e1] at CD
  have CD:=Lib.hid CD
  generalize N.flushE d=E at CD
  clear h h0 hi e1
  unfold ptr at CP ⊢
  go_enter Tryz.func69,Tryz.ntmps69
  go_wp2_with fail
  refine CP.out.mono ?_
  rintro e w' ⟨rfl,rfl⟩
  go_wp2_with fail
  refine CD.out.mono ?_
  rintro e w1 ⟨pv',rfl,hd1,hc1,hn1⟩
  go_wp2
  go_ret
  exact ⟨rfl,by rw [HF.out];exact Hh.out.step HI.out hd1 hc1 hn1⟩
 ·have HE:=Lib.hid (show N.flushE d=N.powE d by unfold Bch.flushE;rw [if_pos h0])
  have HF:=Lib.hid (show N.flush d=N by unfold Bch.flush;rw [if_pos h0])
  have hne:(N.powE d != 0)=true:=by rw [bne_iff_ne];exact h0
  rw [dptr_no H d h0] at CP
  generalize N.powE d=E at CP HE hne
  clear h h0
  unfold ptr at CP ⊢
  go_enter Tryz.func69,Tryz.ntmps69
  go_wp2_with fail
  refine CP.out.mono ?_
  rintro e w' ⟨rfl,rfl⟩
  go_wp2
  go_ret
  exact ⟨by rw [HE.out];rfl,by rw [HF.out];exact Hh.out.self⟩
theorem bch_fail_any (d:Int) (hd:i64B d):Calls Tryz.prog 21 #[ptr b,.int .i64 d] w fun e w'=>e=.returned (.int .i64 (N.pickE d))∧BTo w w' B b H N.n (N.fail d):=by
 have Hh:=Lib.hid h
 have CP:=Lib.hid (bch_pick_any B b H N w h d hd)
 by_cases h0:N.pickE d=0
 ·rw [h0,dptr_ok] at CP
  have hi:=Bch.pickE_zero h0
  have HI:=Lib.hid (show d.toNat < N.n by omega)
  have HF:=Lib.hid (show N.fail d=N.set d.toNat Dsk.failed by unfold Bch.fail;rw [if_neg (by simp [h0])])
  have CD:=Lib.hid (dsk_fail_any _ _ _ _ w (h.dsk d.toNat (by omega)))
  have HE:=Lib.hid h0
  clear h h0 hi
  unfold ptr at CP ⊢
  go_enter Tryz.func21,Tryz.ntmps21
  go_wp2_with fail
  refine CP.out.mono ?_
  rintro e w' ⟨rfl,rfl⟩
  go_wp2_with fail
  refine CD.out.mono ?_
  rintro e w1 ⟨rfl,hd1,hc1⟩
  go_wp2
  go_ret
  exact ⟨by rw [HE.out];rfl,by rw [HF.out];exact Hh.out.step HI.out hd1 hc1 (NewOr.none _ _)⟩
 ·have HF:=Lib.hid (show N.fail d=N by unfold Bch.fail;rw [if_pos h0])
  have hne:(N.pickE d != 0)=true:=by rw [bne_iff_ne];exact h0
  rw [dptr_no H d h0] at CP
  generalize N.pickE d=E at CP hne ⊢
  clear h h0
  unfold ptr at CP ⊢
  go_enter Tryz.func21,Tryz.ntmps21
  go_wp2_with fail
  refine CP.out.mono ?_
  rintro e w' ⟨rfl,rfl⟩
  go_wp2
  go_ret
  exact ⟨rfl,by rw [HF.out];exact Hh.out.self⟩
theorem bch_damage_any (d k:Int) (x:List UInt8) (A:Option Addr) (n c:Nat) (hn:n=x.length) (hd:i64B d) (hk:i64B k) (hr:RdB w w.heap.size A x) (hps:∀ i,i < N.n→(N.D i).ps.length ≤ 2000000) :
    Calls Tryz.prog 29 #[ptr b,.int .i64 d,.int .i64 k,.slice A n c] w fun e w'=>e=.returned (.int .i64 (N.damageE d k n))∧BTo w w' B b H N.n (N.damage d k x):=by
 have Hh:=Lib.hid h
 have CP:=Lib.hid (bch_pick_any B b H N w h d hd)
 by_cases h0:N.pickE d=0
 ·rw [h0,dptr_ok] at CP
  have hi:=Bch.pickE_zero h0
  have HI:=Lib.hid (show d.toNat < N.n by omega)
  have e1:takeE (N.at_ d).f k n=N.damageE d k n:=by unfold Bch.damageE;rw [if_neg (by simp [h0])]
  have HF:=Lib.hid (show N.damage d k x=N.set d.toNat ((N.at_ d).damageE k x) by unfold Bch.damage;rw [if_neg (by simp [h0])])
  have CD:=dsk_damage_any _ _ _ _ w (h.dsk d.toNat (by omega)) k x A n c hn hk hr (hps _ (by omega))
  rw [show N.D d.toNat=N.at_ d from rfl,e1] at CD
  have CD:=Lib.hid CD
  generalize N.damageE d k n=E at CD
  clear h h0 hi e1 hr hps hn
  unfold ptr at CP ⊢
  go_enter Tryz.func29,Tryz.ntmps29
  go_wp2_with fail
  refine CP.out.mono ?_
  rintro e w' ⟨rfl,rfl⟩
  go_wp2_with fail
  refine CD.out.mono ?_
  rintro e w1 ⟨pv',rfl,hd1,hc1,hn1⟩
  go_wp2
  go_ret
  exact ⟨rfl,by rw [HF.out];exact Hh.out.step HI.out hd1 hc1 hn1⟩
 ·have HE:=Lib.hid (show N.damageE d k n=N.pickE d by unfold Bch.damageE;rw [if_pos h0])
  have HF:=Lib.hid (show N.damage d k x=N by unfold Bch.damage;rw [if_pos h0])
  have hne:(N.pickE d != 0)=true:=by rw [bne_iff_ne];exact h0
  rw [dptr_no H d h0] at CP
  generalize N.pickE d=E at CP HE hne
  clear h h0 hr hps hn
  unfold ptr at CP ⊢
  go_enter Tryz.func29,Tryz.ntmps29
  go_wp2_with fail
  refine CP.out.mono ?_
  rintro e w' ⟨rfl,rfl⟩
  go_wp2
  go_ret
  exact ⟨by rw [HE.out];rfl,by rw [HF.out];exact Hh.out.self⟩
end
end Go.Proofs.YtldfoadildaljaaGreat
end
section
namespace Go.Proofs.YtldfoadildaljaaGreat
open Go.RowKit
theorem upd_self {α:Type} (f:Nat→α) (i:Nat):upd f i (f i)=f:=by
 funext j
 by_cases e:j=i
 ·subst e;rw [upd_same]
 ·rw [upd_other _ _ e]
theorem Bch.set_self (N:Bch) (i:Nat):N.set i (N.D i)=N:=by unfold Bch.set;rw [upd_self]
set_option maxHeartbeats 400000 in
theorem bch_write_any (B b:Nat) (H:BH) (N:Bch) (w:World) (h:BAt w B b H N) (d k:Int) (x:List UInt8) (A:Option Addr) (n c:Nat) (hn:n=x.length) (hd:i64B d) (hk:i64B k) (hr:RdB w w.heap.size A x) (hps:∀ i,i < N.n→(N.D i).ps.length ≤ 2000000) (hdn:N.done ≤ 2000000) :
    Calls Tryz.prog 66 #[ptr b,.int .i64 d,.int .i64 k,.slice A n c] w fun e w'=>e=.returned (.int .i64 (N.writeE d k n))∧BTo w w' B b H N.n (N.write d k x):=by
 have Hh:=Lib.hid h
 have CP:=Lib.hid (bch_powered_any B b H N w h d hd)
 subst hn
 have hxl:x.length ≤ 9223372036854775807:=by have:=hr.1;omega
 by_cases h0:N.powE d=0
 ·rw [h0,dptr_ok] at CP
  have hi:=Bch.pickE_zero (Bch.powE_zero h0).1
  have HI:=Lib.hid (show d.toNat < N.n by omega)
  have Hn:=Lib.hid (h.ok.n)
  have CS:=Lib.hid (bch_spent_any B b H N w h)
  have Hd:=Lib.hid (h.dsk d.toNat (by omega))
  have hp:=hps d.toNat (by omega)
  by_cases hl:N.left=0
  ·have hs:(N.left == 0)=true:=by rw [hl];rfl
   rw [hs] at CS
   have CC:=Lib.hid (dsk_clone_any _ _ _ _ w Hd.out hp)
   have Hr:=Lib.hid hr
   have Hk:=Lib.hid hk
   have Hp:=Lib.hid hp
   have Hdn:=Lib.hid hdn
   have HP:=Lib.hid h0
   have HL:=Lib.hid hl
   clear h h0 hi hr hk hps hdn hd hs hl hp
   unfold ptr at CP CS ⊢
   go_enter Tryz.func66,Tryz.ntmps66
   go_wp2_with fail
   refine CP.out.mono ?_
   rintro e w ⟨rfl,rfl⟩
   go_wp2_with fail
   refine CS.out.mono ?_
   rintro e w ⟨rfl,rfl⟩
   go_wp2_with fail
   refine CC.out.mono ?_
   rintro e w1 ⟨b',pv',rfl,hd1,hb1⟩
   have CW:=Lib.hid (dsk_write_any _ _ _ _ w1 hd1 k x A x.length c rfl Hk.out ((Hr.out.below hb1 (Nat.le_refl _)).more hb1.size) Hp.out)
   have Hd1:=Lib.hid hd1
   have Hb1:=Lib.hid hb1
   clear hd1 hb1
   go_wp2_with fail
   refine CW.out.mono ?_
   rintro e w2 ⟨pv2,rfl,hd2,hc2,hn2⟩
   have Hb2:=Lib.hid (show Below w.heap.size w w2 from Hb1.out.trans (hc2.below (fun k hk=>(Hd1.out.flt hk).1) Hb1.out.size))
   have Ha:=Lib.hid (Hh.out.below Hb2.out)
   clear hd2 hc2 hn2
   by_cases ht:takeE (N.D d.toNat).f k x.length=0
   ·have CN:=Lib.hid (bch_count_any _ _ _ _ w2 Ha.out Hdn.out)
    have HE:=Lib.hid (show N.writeE d k x.length=N.countE by
     unfold Bch.writeE;rw [if_neg (show ¬ N.powE d ≠ 0 by simp [HP.out]),if_neg (show ¬ takeE (N.at_ d).f k x.length ≠ 0 from fun e=>e ht)])
    have HW:=Lib.hid (show N.write d k x=N.count by
     unfold Bch.write;rw [if_neg (show ¬ N.powE d ≠ 0 by simp [HP.out]),if_neg (show ¬ takeE (N.at_ d).f k x.length ≠ 0 from fun e=>e ht),if_pos HL.out])
    rw [ht]
    unfold ptr at CN
    clear ht
    go_wp2_with fail
    refine CN.out.mono ?_
    rintro e w3 ⟨rfl,ht3⟩
    go_wp2
    go_ret
    exact ⟨by rw [HE.out];rfl,by rw [HW.out];exact BTo.seq (chg_below _ Hb2.out) rfl (fun _ h=>.inl h) ht3⟩
   ·have HE:=Lib.hid (show N.writeE d k x.length=takeE (N.D d.toNat).f k x.length by
      unfold Bch.writeE;rw [if_neg (show ¬ N.powE d ≠ 0 by simp [HP.out]),if_pos (show takeE (N.at_ d).f k x.length ≠ 0 from ht)];rfl)
    have HW:=Lib.hid (show N.write d k x=N by
     unfold Bch.write;rw [if_neg (show ¬ N.powE d ≠ 0 by simp [HP.out]),if_pos (show takeE (N.at_ d).f k x.length ≠ 0 from ht)])
    have hne:(takeE (N.D d.toNat).f k x.length != 0)=true:=by rw [bne_iff_ne];exact ht
    clear ht CW
    generalize takeE (N.D d.toNat).f k x.length=E at HE hne ⊢
    go_wp2
    go_ret
    exact ⟨by rw [HE.out];rfl,by rw [HW.out];exact Hh.out.grow Hb2.out⟩
  ·have hs:(N.left == 0)=false:=by rw [beq_eq_false_iff_ne];exact hl
   rw [hs] at CS
   have CW:=Lib.hid (dsk_write_any _ _ _ _ w Hd.out k x A x.length c rfl hk hr hp)
   have Hdn:=Lib.hid hdn
   have HP:=Lib.hid h0
   have HL:=Lib.hid hl
   clear h h0 hi hr hk hps hdn hd hs hl hp
   unfold ptr at CP CS ⊢
   go_enter Tryz.func66,Tryz.ntmps66
   go_wp2_with fail
   refine CP.out.mono ?_
   rintro e w ⟨rfl,rfl⟩
   go_wp2_with fail
   refine CS.out.mono ?_
   rintro e w ⟨rfl,rfl⟩
   go_wp2_with fail
   refine CW.out.mono ?_
   rintro e w2 ⟨pv2,rfl,hd2,hc2,hn2⟩
   obtain ⟨H1,a1,c1,⟨_,g1⟩,n1⟩:=Hh.out.step HI.out hd2 hc2 hn2
   have Hg:=Lib.hid g1
   have Ha:=Lib.hid a1
   have Hc:=Lib.hid c1
   have Hm:=Lib.hid n1
   clear hd2 hc2 hn2 a1 c1 n1 g1
   by_cases ht:takeE (N.D d.toNat).f k x.length=0
   ·have CN:=Lib.hid (bch_count_any _ _ _ _ w2 Ha.out Hdn.out)
    have HE:=Lib.hid (show N.writeE d k x.length=N.countE by
     unfold Bch.writeE;rw [if_neg (show ¬ N.powE d ≠ 0 by simp [HP.out]),if_neg (show ¬ takeE (N.at_ d).f k x.length ≠ 0 from fun e=>e ht)])
    have HW:=Lib.hid (show N.write d k x=(N.set d.toNat ((N.D d.toNat).writeE k x)).count by
     unfold Bch.write Dsk.writeE;rw [if_neg (show ¬ N.powE d ≠ 0 by simp [HP.out]),if_neg (show ¬ takeE (N.at_ d).f k x.length ≠ 0 from fun e=>e ht),if_neg HL.out,if_pos ht];rfl)
    have HCE:Hid ((N.set d.toNat ((N.D d.toNat).writeE k x)).countE=N.countE):=rfl
    rw [ht]
    rw [HCE.out] at CN
    unfold ptr at CN
    clear ht CW
    go_wp2_with fail
    refine CN.out.mono ?_
    rintro e w3 ⟨rfl,ht3⟩
    go_wp2
    go_ret
    have ht4:BTo w w3 B b H N.n _:=BTo.seq Hc.out Hg.out Hm.out ht3
    rw [HE.out,HW.out]
    exact ⟨rfl,ht4⟩
   ·have HE:=Lib.hid (show N.writeE d k x.length=takeE (N.D d.toNat).f k x.length by
      unfold Bch.writeE;rw [if_neg (show ¬ N.powE d ≠ 0 by simp [HP.out]),if_pos (show takeE (N.at_ d).f k x.length ≠ 0 from ht)];rfl)
    have HW:=Lib.hid (show N.write d k x=N.set d.toNat ((N.D d.toNat).writeE k x) by
     unfold Bch.write Dsk.writeE;rw [if_neg (show ¬ N.powE d ≠ 0 by simp [HP.out]),if_pos (show takeE (N.at_ d).f k x.length ≠ 0 from ht),if_neg ht,Bch.set_self])
    have hne:(takeE (N.D d.toNat).f k x.length != 0)=true:=by rw [bne_iff_ne];exact ht
    clear ht CW
    generalize takeE (N.D d.toNat).f k x.length=E at HE hne ⊢
    go_wp2
    go_ret
    exact ⟨by rw [HE.out];rfl,by rw [HW.out];exact ⟨H1,Ha.out,Hc.out,⟨rfl,Hg.out⟩,Hm.out⟩⟩
 ·have HE:=Lib.hid (show N.writeE d k x.length=N.powE d by unfold Bch.writeE;rw [if_pos h0])
  have HF:=Lib.hid (show N.write d k x=N by unfold Bch.write;rw [if_pos h0])
  have hne:(N.powE d != 0)=true:=by rw [bne_iff_ne];exact h0
  rw [dptr_no H d h0] at CP
  generalize N.powE d=E at CP HE hne
  clear h h0 hr hps hdn
  unfold ptr at CP ⊢
  go_enter Tryz.func66,Tryz.ntmps66
  go_wp2_with fail
  refine CP.out.mono ?_
  rintro e w ⟨rfl,rfl⟩
  go_wp2
  go_ret
  exact ⟨by rw [HE.out];rfl,by rw [HF.out];exact Hh.out.self⟩
end Go.Proofs.YtldfoadildaljaaGreat
end
