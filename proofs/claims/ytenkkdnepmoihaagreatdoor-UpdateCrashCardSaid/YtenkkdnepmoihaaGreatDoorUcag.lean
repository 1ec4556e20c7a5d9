/- Texts put together: Rows2, CloneB, PlaceBackMath, PlaceAll, GfInv, GfAid, RefGf, OwnInt, GeoCap, OwnStep, LawArgs, Laid. -/
import Derived.Test.YtenkkdnepmoihaaGreatDoorUcaa
import Derived.Deep.Matrix
import Derived.Test.YtenkkdnepmoihaaGreatDoorProg
import Derived.Deep.Grids
import Derived.Test.YtenkkdnepmoihaaGreatDoorCards
import Derived.Test.YtenkkdnepmoihaaGreatDoorTie
section
namespace Go.Proofs.YtenkkdnepmoihaaGreatDoor
open Go.ChangeShapes Go.WideShapes Go.ChangeAt Go.RowKit
def RdC (w:World) (B:Nat) (A:Option Addr) (rs:List (List UInt8)):Prop :=
 rs.length ≤ 140737488355328∧(0 < rs.length→∃ b off,A=some ⟨b,off,none⟩∧b < B∧∀ k,k < rs.length→∃ A' c,w.cell? ⟨b,off + k,none⟩=some (.slice A' (rs.getD k []).length c)∧(rs.getD k []).length ≤ c∧RdB w B A' (rs.getD k []))
theorem RdC.rdr {w:World} {B:Nat} {A:Option Addr} {rs:List (List UInt8)} (h:RdC w B A rs):RdR w B A rs :=
 ⟨h.1,fun h0=>by
  obtain ⟨b,off,e,hb,hc⟩:=h.2 h0
  refine ⟨b,off,e,hb,fun k hk=>?_⟩
  obtain ⟨A',c,h1,_,h2⟩:=hc k hk
  exact ⟨A',c,h1,h2⟩⟩
theorem RdC.keep {w w':World} {B B':Nat} {A:Option Addr} {rs:List (List UInt8)} (h:RdC w B A rs) (hB:B ≤ B') (hk:∀ p:Addr,p.block < B→w'.cell? p=w.cell? p):RdC w' B' A rs :=
 ⟨h.1,fun hn=>by
  obtain ⟨b,off,e,hb,hc⟩:=h.2 hn
  refine ⟨b,off,e,by omega,fun k hk'=>?_⟩
  obtain ⟨A',c,h1,h2,h3⟩:=hc k hk'
  exact ⟨A',c,(hk ⟨b,off + k,none⟩ hb).trans h1,h2,h3.keep hB hk⟩⟩
theorem RdC.below {w w':World} {B B':Nat} {A:Option Addr} {rs:List (List UInt8)} (h:RdC w B A rs) (hb:Below B' w w') (hB:B ≤ B'):RdC w' B A rs:=h.keep (Nat.le_refl _) fun p hp=>hb.cell (by omega)
theorem RdC.more {w:World} {B B':Nat} {A:Option Addr} {rs:List (List UInt8)} (h:RdC w B A rs) (hB:B ≤ B'):RdC w B' A rs:=h.keep hB fun _ _=>rfl
section
variable {H:Type} {enc:TypeId × Value→H} {P:Program}
end
theorem rdb_lit {w:World} {g:Nat} {cs:Array Value} {t:TypeId} {f:Nat × Nat} {bs:List UInt8} (hg:w.heap[g]?=some (.cells cs t f)) (hl:bs.length ≤ 140737488355328) (hcs:cs.toList=bs.map bv):RdB w w.heap.size (some ⟨g,0,none⟩) bs :=
 rdb_block hg (Array.getElem?_eq_some_iff.1 hg).1 hl fun k hk=>by
  rw [← Array.getElem?_toList,hcs,List.getElem?_map,List.getElem?_eq_getElem hk,List.getD_eq_getElem?_getD,List.getElem?_eq_getElem hk]
  rfl
end Go.Proofs.YtenkkdnepmoihaaGreatDoor
end
section
set_option maxRecDepth 8000
namespace Go.Proofs.YtenkkdnepmoihaaGreatDoor
open Go.RowKit
theorem own_empty (w:World):OwB 5 (w.alloc (.cells #[] 5)) w.heap.size (.slice (some ⟨w.heap.size,0,none⟩) 0 0) [] :=
 ⟨World.ownsRow_lit w #[] 0 (Nat.le_refl _) (by unfold maxLen;omega) rfl,by simp⟩
theorem clone_any (A:Option Addr) (bs:List UInt8) (n c:Nat) (w:World) (hn:n=bs.length) (hp:0 < bs.length) (hr:RdB w w.heap.size A bs) :
    Calls Tryz.prog 86 #[.slice A n c] w fun e w'=>∃ v,e=.returned v∧OwB 5 w' w.heap.size v bs∧Below w.heap.size w w':=by
 have hl:=hr.1
 obtain ⟨b,off,rfl,hb,hc⟩:=hr.2 hp
 subst hn
 have ho:=own_empty w
 have hq:∀ W:World,(binOp .eql 35 (.slice (some ⟨b,off,none⟩) bs.length c) (.slice none 0 0)).run Tryz.prog W=.ok (.bool false) W:=fun _=>rfl
 have hr1:=hr.below (below1 w (.cells #[] 5)) (Nat.le_refl _)
 go_enter Tryz.func86,Tryz.ntmps86
 go_wp2_with (at_builtin;refine wpList_append_B _ rfl _ _ _ rfl w.heap.size 5 Tryz.underlying35 info_u8 (.slice (some ⟨w.heap.size,0,none⟩) 0 0) [] rfl ho w.heap.size (some ⟨b,off,none⟩) bs.length c bs rfl rfl hr1 (by simpa using hl) (by simp) ?_;intro v' w' hown hg hat)
 have hbw:=(below1 w (.cells #[] 5)).grown hg (by simp) (by simp [Value.ownBlock])
 rw [List.nil_append] at hown
 go_ret
 exact ⟨v',rfl,hown,hbw⟩
end Go.Proofs.YtenkkdnepmoihaaGreatDoor
end
section
namespace Go.Proofs.YtenkkdnepmoihaaGreatDoor
theorem ld_cases {l d c:Int} (h:gOk l d c=true):(l=5∧d=3)∨(l=5∧d=4)∨(l=5∧d=5)∨(l=5∧d=6)∨(l=5∧d=7)∨(l=5∧d=8)∨(l=6∧d=4)∨(l=6∧d=5)∨(l=6∧d=6)∨(l=6∧d=7)∨(l=6∧d=8):=by
 obtain ⟨h1,h8,_⟩:=gOk_yes h
 rcases h1 with ⟨rfl,h3⟩ | ⟨rfl,h4⟩
 ·have hd:d=3∨d=4∨d=5∨d=6∨d=7∨d=8:=by omega
  rcases hd with rfl | rfl | rfl | rfl | rfl | rfl <;> simp
 ·have hd:d=4∨d=5∨d=6∨d=7∨d=8:=by omega
  rcases hd with rfl | rfl | rfl | rfl | rfl <;> simp
theorem plK_only {l d c i r k:Int} (h:plDok l d c r k=true) (he:plD l d c r k=i):k=plK l d c i r:=by
 obtain ⟨hk,h0,h1⟩:=plDok_yes h
 obtain ⟨hg,_,_⟩:=plOk_yes hk
 have hf:=plF_bd l c r (show 1 ≤ d by have:=gOk_bd hg;omega)
 rw [plD_yes h] at he
 rw [gWid_yes hg] at h1
 unfold plK
 generalize plF l d c r=f at hf he
 subst he
 rcases ld_cases hg with ⟨rfl,rfl⟩ | ⟨rfl,rfl⟩ | ⟨rfl,rfl⟩ | ⟨rfl,rfl⟩ | ⟨rfl,rfl⟩ | ⟨rfl,rfl⟩ | ⟨rfl,rfl⟩ | ⟨rfl,rfl⟩ | ⟨rfl,rfl⟩ | ⟨rfl,rfl⟩ | ⟨rfl,rfl⟩ <;> omega
end Go.Proofs.YtenkkdnepmoihaaGreatDoor
end
section
namespace Go.Proofs.YtenkkdnepmoihaaGreatDoor
theorem wd_cases {l d c:Int} (h:gOk l d c=true):(d - (l - 4)=2∨d - (l - 4)=3∨d - (l - 4)=4∨d - (l - 4)=5∨d - (l - 4)=6∨d - (l - 4)=7)∧(c=1∨c=2∨c=4):=by
 obtain ⟨h1,h8,hc⟩:=gOk_yes h
 refine ⟨?_,hc⟩
 omega
theorem of_row {l d c n:Int} (hg:gOk l d c=true) (h0:0 ≤ n) (h1:n < gCap l d c) :
    0 ≤ plRow l d c n∧plRow l d c n < 16∧0 ≤ n / c % (d - (l - 4))∧n / c % (d - (l - 4)) < d - (l - 4)∧plRow l d c n / c=n / c / (d - (l - 4))∧plN l d c (plRow l d c n) (n / c % (d - (l - 4)))=n:=by
 obtain ⟨hw,hc⟩:=wd_cases hg
 rw [gCap_yes hg] at h1
 unfold plN plRow
 generalize d - (l - 4)=wd at hw h1
 rcases hw with rfl | rfl | rfl | rfl | rfl | rfl <;> rcases hc with rfl | rfl | rfl <;> omega
theorem num_row {l d c r k:Int} (h:plDok l d c r k=true):0 ≤ plN l d c r k∧plN l d c r k < gCap l d c∧plRow l d c (plN l d c r k)=r∧plN l d c r k / c % (d - (l - 4))=k:=by
 obtain ⟨hk,k0,k1⟩:=plDok_yes h
 obtain ⟨hg,r0,r1⟩:=plOk_yes hk
 obtain ⟨hw,hc⟩:=wd_cases hg
 rw [gWid_yes hg] at k1
 rw [gCap_yes hg]
 unfold plN plRow
 generalize d - (l - 4)=wd at hw k1
 rcases hw with rfl | rfl | rfl | rfl | rfl | rfl <;> rcases hc with rfl | rfl | rfl <;> omega
theorem plDok_mk {l d c r k:Int} (h:plOk l d c r=true) (k0:0 ≤ k) (k1:k < d - (l - 4)):plDok l d c r k=true:=by
 unfold plDok
 rw [h,gWid_yes (plOk_yes h).1,decide_eq_true ⟨k0,k1⟩];rfl
theorem data_ne {l d c r k:Int} (h:plDok l d c r k=true):0 ≤ plD l d c r k∧plD l d c r k < d∧plD l d c r k ≠ plP l d c r∧plD l d c r k ≠ plQ l d c r:=by
 obtain ⟨hk,k0,k1⟩:=plDok_yes h
 obtain ⟨hg,_,_⟩:=plOk_yes hk
 have hm:=rem_bd (r / c) (show 1 ≤ d by have:=gOk_bd hg;omega)
 rw [plD_yes h,plP_yes hk]
 rw [gWid_yes hg] at k1
 unfold plQ plF
 rw [if_pos hk]
 generalize r / c % d=m at hm
 rcases ld_cases hg with ⟨rfl,rfl⟩ | ⟨rfl,rfl⟩ | ⟨rfl,rfl⟩ | ⟨rfl,rfl⟩ | ⟨rfl,rfl⟩ | ⟨rfl,rfl⟩ | ⟨rfl,rfl⟩ | ⟨rfl,rfl⟩ | ⟨rfl,rfl⟩ | ⟨rfl,rfl⟩ | ⟨rfl,rfl⟩ <;> simp <;> omega
theorem parity_in {l d c r:Int} (hk:plOk l d c r=true):0 ≤ plP l d c r∧plP l d c r < d∧(l=5→plQ l d c r=-1)∧(l=6→0 ≤ plQ l d c r∧plQ l d c r < d∧plQ l d c r ≠ plP l d c r):=by
 obtain ⟨hg,_,_⟩:=plOk_yes hk
 have hm:=rem_bd (r / c) (show 1 ≤ d by have:=gOk_bd hg;omega)
 rw [plP_yes hk]
 unfold plQ
 rw [if_pos hk]
 generalize r / c % d=m at hm
 rcases ld_cases hg with ⟨rfl,rfl⟩ | ⟨rfl,rfl⟩ | ⟨rfl,rfl⟩ | ⟨rfl,rfl⟩ | ⟨rfl,rfl⟩ | ⟨rfl,rfl⟩ | ⟨rfl,rfl⟩ | ⟨rfl,rfl⟩ | ⟨rfl,rfl⟩ | ⟨rfl,rfl⟩ | ⟨rfl,rfl⟩ <;> simp <;> omega
theorem back_data {l d c r k:Int} (h:plDok l d c r k=true):plBOk l d c (plD l d c r k) r=true∧plBk l d c (plD l d c r k) r=0∧plBn l d c (plD l d c r k) r=plN l d c r k:=by
 obtain ⟨a,b,e1,e2⟩:=data_ne h
 have hk:=(plDok_yes h).1
 have hb:plBOk l d c (plD l d c r k) r=true:=by unfold plBOk;rw [hk,decide_eq_true ⟨a,b⟩];rfl
 refine ⟨hb,?_,?_⟩
 ·unfold plBk;rw [if_pos hb,if_neg e1,if_neg e2]
 ·unfold plBn;rw [if_pos hb,if_neg e1,if_neg e2,← plK_only h rfl]
theorem of_yes {l d c n:Int} (hg:gOk l d c=true) (h0:0 ≤ n) (h1:n < gCap l d c) :
    plOfOk l d c n=true∧plOfR l d c n=plRow l d c n∧plOfD l d c n=plD l d c (plRow l d c n) (n / c % (d - (l - 4)))∧plDok l d c (plRow l d c n) (n / c % (d - (l - 4)))=true:=by
 obtain ⟨a,b,k0,k1,_,_⟩:=of_row hg h0 h1
 have hok:plOfOk l d c n=true:=decide_eq_true ⟨h0,h1⟩
 exact ⟨hok,by rw [plOfR,if_pos hok],by rw [plOfD,if_pos hok],plDok_mk (plOk_mk hg a b) k0 k1⟩
theorem of_back {l d c n:Int} (hg:gOk l d c=true) (h0:0 ≤ n) (h1:n < gCap l d c) :
    plOfOk l d c n=true∧(0 ≤ plOfD l d c n∧plOfD l d c n < d)∧(0 ≤ plOfR l d c n∧plOfR l d c n < 16)∧plBOk l d c (plOfD l d c n) (plOfR l d c n)=true∧plBk l d c (plOfD l d c n) (plOfR l d c n)=0∧plBn l d c (plOfD l d c n) (plOfR l d c n)=n:=by
 obtain ⟨a,b,k0,k1,_,hN⟩:=of_row hg h0 h1
 obtain ⟨hok,hr,hd,hk⟩:=of_yes hg h0 h1
 obtain ⟨b1,b2,b3⟩:=back_data hk
 obtain ⟨d0,d1,_,_⟩:=data_ne hk
 rw [hr,hd]
 exact ⟨hok,⟨d0,d1⟩,⟨a,b⟩,b1,b2,by rw [b3];exact hN⟩
theorem of_num {l d c r k:Int} (h:plDok l d c r k=true):plOfOk l d c (plN l d c r k)=true∧plOfD l d c (plN l d c r k)=plD l d c r k∧plOfR l d c (plN l d c r k)=r:=by
 have hg:=(plOk_yes (plDok_yes h).1).1
 obtain ⟨n0,n1,hr,hk⟩:=num_row h
 obtain ⟨hok,h2,h3,_⟩:=of_yes hg n0 n1
 refine ⟨hok,?_,?_⟩
 ·rw [h3,hr,hk]
 ·rw [h2,hr]
end Go.Proofs.YtenkkdnepmoihaaGreatDoor
end
section
namespace Go.Proofs.YtenkkdnepmoihaaGreatDoor
open Go.RowKit
theorem inv_any (a:Nat) (ha:a < 256) (w:World):Calls Tryz.prog 144 #[.int .u8 (a:Int)] w fun e w'=>e=.returned (.int .u8 ((ginv a:Nat):Int))∧w'=w:=by
 have H:=Lib.hid (gpw_inv ha)
 go_enter Tryz.func144,Tryz.ntmps144
 go_wp2_with (go_at_call 138;refine (power_any a 254 ha (by decide) _).mono ?_;rintro e w' ⟨rfl,rfl⟩)
 go_ret
 exact ⟨ret_int (congrArg Nat.cast H.out),rfl⟩
end Go.Proofs.YtenkkdnepmoihaaGreatDoor
end
section
namespace Go.Proofs.YtenkkdnepmoihaaGreatDoor
open Go.RowKit
theorem i64_xor_small (a b:Nat) (ha:a < 1024) (hb:b < 1024):bits .xor .i64 (a:Int) (b:Int)=((a ^^^ b:Nat):Int):=by
 have hx:a ^^^ b < 2 ^ 10:=Nat.xor_lt_two_pow (by omega) (by omega)
 have o:∀ n:Nat,n < 1024→(BitVec.ofInt 64 (n:Int)).toNat=n:=fun n hn=>by rw [BitVec.ofInt_natCast,BitVec.toNat_ofNat];exact Nat.mod_eq_of_lt (by omega)
 show IntKind.i64.wrap ((BitVec.ofInt 64 (a:Int) ^^^ BitVec.ofInt 64 (b:Int)).toNat:Int)=_
 rw [BitVec.toNat_xor,o a ha,o b hb]
 exact IntWalk.i64_in _ (by omega)
theorem xor285:∀ x:Nat,x < 256→¬ x < 128→(2 * x) ^^^ 285=dbl x:=by decide +kernel
end Go.Proofs.YtenkkdnepmoihaaGreatDoor
end
section
namespace Go.Proofs.YtenkkdnepmoihaaGreatDoor
open Go.RowKit
theorem mulF_more (k b:Nat) (h:k < 8) (s x:Nat):mulF (8 - k) s x (b / 2 ^ k)=mulF (8 - (k + 1)) (if b / 2 ^ k % 2=1 then s ^^^ x else s) (dbl x) (b / 2 ^ (k + 1)):=by
 rw [show 8 - k=(8 - (k + 1)) + 1 from by omega,mulF_step,Nat.div_div_eq_div_mul,← Nat.pow_succ]
theorem bit_any (b k:Nat) (hb:b < 256):bits .and .u8 ((b:Int) / 2 ^ k) 1=((b / 2 ^ k % 2:Nat):Int):=by
 have hlt:b / 2 ^ k < 256:=Nat.lt_of_le_of_lt (Nat.div_le_self _ _) hb
 have:=u8_and_nat (b / 2 ^ k) 1 hlt (by decide)
 rw [nat_mask1] at this
 rw [← this]
 simp
theorem refMul_any (a b:Nat) (ha:a < 256) (hb:b < 256) (w:World):Calls Tryz.prog 106 #[.int .u8 (a:Int),.int .u8 (b:Int)] w fun e w'=>e=.returned (.int .u8 ((gmul a b:Nat):Int))∧w'=w:=by
 go_enter Tryz.func106,Tryz.ntmps106
 go_wp2
 go_loop [5,6,7] (fun vx vs vk=>∃ k s x:Nat,k ≤ 8∧s < 256∧x < 256∧vx=.int .i64 (x:Int)∧vs=.int .i64 (s:Int)∧vk=.int .i64 (k:Int)∧Hid (mulF (8 - k) s x (b / 2 ^ k)=gmul a b)) (fun _ _ vk=>8 - (intOf vk).toNat)
 case atStart=>exact ⟨0,0,a,by omega,by decide,ha,rfl,rfl,rfl,(by rw [Nat.pow_zero,Nat.div_one];rfl:mulF (8 - 0) 0 a (b / 2 ^ 0)=gmul a b)⟩
 case round =>
  obtain ⟨k,s,x,hk,hs,hx,rfl,rfl,rfl,Hm⟩:=hrel
  by_cases h8:k < 8
  ·have hdx:=dbl_lt x hx
   have hxl:=xor_lt8 hs hx
   have ex:=i64_xor_small s x (by omega) (by omega)
   have e0:=bit_any b k hb
   have Hk:=Lib.hid ((mulF_more k b h8 s x).symm.trans Hm.out)
   clear Hm
   by_cases hbit:b / 2 ^ k % 2=1
   ·rw [hbit,show ((1:Nat):Int)=1 from rfl] at e0
    have Hr:Hid (mulF (8 - (k + 1)) (s ^^^ x) (dbl x) (b / 2 ^ (k + 1))=gmul a b):=by have:=Hk.out;rw [if_pos hbit] at this;exact this
    clear Hk hbit
    by_cases h:x < 128
    ·have Hd:Hid (dbl x=2 * x):=if_pos h
     go_wp2
     go_round
     case rel=>exact ⟨k + 1,(s ^^^ x),dbl x,by omega,by assumption,hdx,by rw [Hd.out];go_num,rfl,by go_num,Hr⟩
     case measure=>simp [intOf];omega
    ·have e1:=i64_xor_small (2 * x) 285 (by omega) (by omega)
     have e2:((2 * x:Nat):Int)=(x:Int) * 2:=by omega
     rw [e2,xor285 x hx h,show ((285:Nat):Int)=285 from rfl] at e1
     clear e2
     go_wp2
     go_round
     case rel=>exact ⟨k + 1,(s ^^^ x),dbl x,by omega,by assumption,hdx,rfl,rfl,by go_num,Hr⟩
     case measure=>simp [intOf];omega
   ·rw [show b / 2 ^ k % 2=0 from by omega,show ((0:Nat):Int)=0 from rfl] at e0
    have Hr:Hid (mulF (8 - (k + 1)) s (dbl x) (b / 2 ^ (k + 1))=gmul a b):=by have:=Hk.out;rw [if_neg hbit] at this;exact this
    clear Hk hbit
    by_cases h:x < 128
    ·have Hd:Hid (dbl x=2 * x):=if_pos h
     go_wp2
     go_round
     case rel=>exact ⟨k + 1,s,dbl x,by omega,by assumption,hdx,by rw [Hd.out];go_num,rfl,by go_num,Hr⟩
     case measure=>simp [intOf];omega
    ·have e1:=i64_xor_small (2 * x) 285 (by omega) (by omega)
     have e2:((2 * x:Nat):Int)=(x:Int) * 2:=by omega
     rw [e2,xor285 x hx h,show ((285:Nat):Int)=285 from rfl] at e1
     clear e2
     go_wp2
     go_round
     case rel=>exact ⟨k + 1,s,dbl x,by omega,by assumption,hdx,rfl,rfl,by go_num,Hr⟩
     case measure=>simp [intOf];omega
  ·obtain rfl:k=8:=by omega
   have Hr:Hid (s=gmul a b):=Hm.out
   clear Hm
   go_wp2
   go_ret
   exact ⟨ret_int (congrArg Nat.cast Hr.out),rfl⟩
end Go.Proofs.YtenkkdnepmoihaaGreatDoor
end
section
set_option linter.unusedVariables false
set_option linter.unusedSimpArgs false
namespace Go.Proofs.YtenkkdnepmoihaaGreatDoor
open Go.RowKit
def zv (z:Int):Value:=.int .i64 z
def OwJ (w:World) (B:Nat) (v:Value) (zs:List Int):Prop:=w.ownsRow B 3 1 v zs.length (zs.map zv)
def RdJ (w:World) (B:Nat) (A:Option Addr) (zs:List Int):Prop :=
 zs.length ≤ 140737488355328∧(0 < zs.length→∃ b off,A=some ⟨b,off,none⟩∧b < B∧∀ j,j < zs.length→w.cell? ⟨b,off + j,none⟩=some (.int .i64 (zs.getD j 0)))
theorem RdJ.nil (w:World) (B:Nat) (A:Option Addr):RdJ w B A []:=⟨by simp,fun h=>by simp at h⟩
theorem OwJ.below {w w':World} {B:Nat} {v:Value} {zs:List Int} (h:OwJ w B v zs) (hb:Below w.heap.size w w'):OwJ w' B v zs:=World.ownsRow.kept h (grown_none hb) (Classical.em _)
theorem OwJ.rd {w:World} {B:Nat} {v:Value} {zs:List Int} (h:OwJ w B v zs) (hl:zs.length ≤ 140737488355328):∃ A c,v=.slice A zs.length c∧RdJ w w.heap.size A zs:=by
 rcases h.2 with ⟨rfl,h0⟩ | ⟨g,cap,cur,rfl,hB,hg,_⟩
 ·exact ⟨none,0,by rw [h0],hl,fun h=>by omega⟩
 ·refine ⟨_,cap,rfl,hl,fun _=>⟨g,0,rfl,(Array.getElem?_eq_some_iff.1 hg).1,fun j hj=>?_⟩⟩
  rw [Nat.zero_add,World.ownsRow.cellAt h j (by omega)]
  simp [hj,zv]
theorem OwJ.le {w:World} {B B':Nat} {v:Value} {zs:List Int} (h:OwJ w B v zs) (hB:B' ≤ B):OwJ w B' v zs:=by
 refine ⟨h.1,?_⟩
 rcases h.2 with h1 | ⟨g,cap,cur,h1,h2,r⟩
 ·exact .inl h1
 ·exact .inr ⟨g,cap,cur,h1,by omega,r⟩
theorem info_z:(Tryz.prog.info? 3).map (fun i=>(i.zero,i.size,i.bytes))=some (some (.int .i64 0),1,8):=by kernel_rfl
theorem make_ints (n:Nat) (hn:n ≤ 1000000) (w:World) :
    (Instr.makeSlice 22 (.int .i64 (n:Int)) (.int .i64 (n:Int))).run Tryz.prog w=.ok (.slice (some ⟨w.heap.size,0,none⟩) n n) (w.alloc (.cells (madeCells #[.int .i64 0] n) 3)) :=
 run_make_row' _ _ _ 8 Tryz.underlying22 info_z rfl _ _ n (by omega) (by omega) w
theorem ownJ_make (w:World) (n:Nat) (hn:n ≤ 1000000):OwJ (w.alloc (.cells (madeCells #[.int .i64 0] n) 3)) w.heap.size (.slice (some ⟨w.heap.size,0,none⟩) n n) (List.replicate n 0):=by
 have h:=World.ownsRow_lit (base:=w.heap.size) (e:=3) (size:=1) w (madeCells #[.int .i64 0] n) n (Nat.le_refl _) (by unfold maxLen;omega) (by simp [size_madeCells])
 rw [toList_madeCells_one] at h
 unfold OwJ
 simpa [zv] using h
theorem OwJ.set {w:World} {B g n c:Nat} {zs:List Int} (h:OwJ w B (.slice (some ⟨g,0,none⟩) n c) zs) (hn:n=zs.length) (j:Nat) (z:Int):OwJ (w.setCell ⟨g,j,none⟩ (.int .i64 z)) B (.slice (some ⟨g,0,none⟩) n c) (zs.set j z):=by
 subst hn
 have h1:=(World.ownsRow.stored h j (.int .i64 z)).1
 unfold OwJ
 rw [List.length_set,List.map_set]
 exact h1
theorem OwJ.cellF {w:World} {B g n c:Nat} {zs:List Int} (h:OwJ w B (.slice (some ⟨g,0,none⟩) n c) zs) (hn:n=zs.length) (j:Nat) (hj:j < n):w.cell? ⟨g,j,none⟩=some (.int .i64 (zs.getD j 0))∧w.frozen? ⟨g,j,none⟩=false:=by
 subst hn
 refine ⟨?_,World.ownsRow.frozenAt h j⟩
 rw [World.ownsRow.cellAt h j (by omega)]
 simp [hj,zv]
end Go.Proofs.YtenkkdnepmoihaaGreatDoor
end
section
namespace Go.Proofs.YtenkkdnepmoihaaGreatDoor
open Go.RowKit
theorem capacity_any (l d c:Int) (w:World) (hl:-9223372036854775808 ≤ l∧l ≤ 9223372036854775807) (hd:-9223372036854775808 ≤ d∧d ≤ 9223372036854775807) (hc:-9223372036854775808 ≤ c∧c ≤ 9223372036854775807) :
    Calls Tryz.prog 79 #[.agg #[.int .i64 l,.int .i64 d,.int .i64 c]] w fun e w'=>e=.returned (.int .i64 (gCap l d c))∧Below w.heap.size w w':=by
 have hB:=gWid_bd l d c
 have HC:Hid (gCap l d c=gWid l d c * 16):=rfl
 go_enter Tryz.func79,Tryz.ntmps79
 go_wp2_with fail
 (with_reducible refine (width_any l d c _ hl hd hc).mono ?_);rintro e w1 ⟨rfl,hb⟩
 have F:=(below1 w _).trans (hb.mono (by simp))
 clear hb
 generalize gWid l d c=wd at hB HC
 go_wp2_with fail
 go_ret
 exact ⟨by rw [HC.out];rfl,F⟩
end Go.Proofs.YtenkkdnepmoihaaGreatDoor
end
section
namespace Go.Proofs.YtenkkdnepmoihaaGreatDoor
open Go.RowKit
theorem step_append_B {P:Program} (w:World) {ops:Array Oper} {o:Oper} {a:Act} {K:Act→World→Prop} {Q:Exit→Act→World→Prop} {E:Prop} (hgd:o.guard=none) (s x:Operand) (t:TypeId)
    (ho:o.op=.call { callee:=.builtin .append,args:=#[s,x],argTypes:=#[t,t] })
    (base:Nat) (e:TypeId) (ht:P.underlying t=some (.slice e)) (hinfo:(P.info? e).map (fun i=>(i.zero,i.size,i.bytes))=some (some (.int .u8 0),1,1))
    (v:Value) (xs:List UInt8) (hs:a.eval s=v) (hown:OwB e w base v xs) (B:Nat) (A:Option Addr) (n c:Nat) (bs:List UInt8) (hx:a.eval x=.slice A n c) (hnl:n=bs.length) (hr:RdB w B A bs)
    (hn:xs.length + bs.length ≤ 140737488355328) (hbase:base ≤ w.heap.size)
    (h:∀ v' w',OwB e w' base v' (xs ++ bs)→w.grownBy w' v.ownBlock→(v'.ownBlock=v.ownBlock∨v'.ownBlock=some w.heap.size)→K (a.put o.dst v') w') :
    if Region.wanted o (yielded ops a.tmps)=true then Oper.wp P o a w K Q else E:=by
 subst hnl
 have hw:Region.wanted o (yielded ops a.tmps)=true:=by simp [Region.wanted,hgd]
 rw [if_pos hw]
 obtain ⟨v',w',hrun,h2,h3,h4⟩:=run_append_B (P:=P) w base t o.type e ht hinfo v xs hown B A c bs hr hn hbase
 unfold Oper.wp execOp
 simp only [ho,resolve,invoke,builtin,Sem.run_bind,Sem.run_pure,Result.andThen_ok,List.map_toArray,List.map_cons,List.map_nil,hs,hx,hrun]
 exact h v' w' h2 h3 h4
end Go.Proofs.YtenkkdnepmoihaaGreatDoor
end
section
namespace Go.Proofs.YtenkkdnepmoihaaGreatDoor
open Go.ChangeShapes Go.WideShapes Go.ChangeAt Go.RowKit Go.Deep
section
variable {H:Type} {enc:TypeId × Value→H} {P:Program}
theorem addr_of {W:World} {x:Addr} {u:Value} (h:W.cell? (x.add 0)=some u):∃ b off,x=⟨b,off,none⟩∧b < W.heap.size:=by
 obtain ⟨b,off,spot⟩:=x
 have hspot:spot=none:=by simpa [Addr.add] using World.cell?_spot h
 subst hspot
 have:=World.block_lt_of_cell? _ _ h
 exact ⟨b,off,rfl,by simpa [Addr.add] using this⟩
theorem addr_add (b off k:Nat):((⟨b,off,none⟩:Addr).add k)=⟨b,off + k,none⟩:=by unfold Addr.add;by_cases hk0:k=0 <;> simp [hk0]
theorem open_rdo {t e:TypeId} (ht:P.underlying t=some (.slice e)) (he:P.underlying e=some .bool) (hc:P.cellsOf e=1) {r:Reach} {W:World} {base:Nat} {v:Value} {d:DataW H} {p:List MemPlace}
    (hv:Value.okWide P W r base t v) (h:DataW.Trod enc P W 0 (fun _=>true) true t v d p):∃ A ks cap,v=.slice A ks.length cap∧ks.length ≤ cap∧RdO W W.heap.size A ks:=by
 obtain ⟨A,len,cap,rfl⟩:=okWide_slice ht hv
 obtain ⟨fuel,hf⟩:=h
 rcases open_bools ht he hc hf with ⟨hcs,_⟩ | ⟨x,l,c,B,hcs,_,hl,hm,_,hcell⟩
 ·simp [Value.cells] at hcs
  obtain ⟨rfl,rfl,rfl⟩:=hcs
  exact ⟨none,[],0,rfl,Nat.le_refl _,RdO.nil _ _ _⟩
 ·simp [Value.cells] at hcs
  obtain ⟨rfl,rfl,rfl⟩:=hcs
  have hL:((List.range len).map B).length=len:=by simp
  refine ⟨some x,(List.range len).map B,cap,by rw [hL],by rw [hL];exact hl,by rw [hL];unfold maxLen at hm;omega,fun hn=>?_⟩
  rw [hL] at hn
  obtain ⟨b,off,rfl,hb⟩:=addr_of (hcell 0 (by omega))
  refine ⟨b,off,rfl,hb,fun k hk=>?_⟩
  rw [hL] at hk
  have:=hcell k (by omega)
  rw [addr_add] at this
  rw [this]
  simp [hk]
theorem open_rdz {t e:TypeId} (ht:P.underlying t=some (.slice e)) (he:P.underlying e=some (.int .i64)) (hc:P.cellsOf e=1) {r:Reach} {W:World} {base:Nat} {v:Value} {d:DataW H} {p:List MemPlace}
    (hv:Value.okWide P W r base t v) (h:DataW.Trod enc P W 0 (fun _=>true) true t v d p):∃ A zs cap,v=.slice A zs.length cap∧zs.length ≤ cap∧RdZ W W.heap.size A zs:=by
 obtain ⟨A,len,cap,rfl⟩:=okWide_slice ht hv
 obtain ⟨fuel,hf⟩:=h
 rcases open_ints ht he hc hf with ⟨hcs,_⟩ | ⟨x,l,c,zs,hcs,_,hl,hm,hz,hd,hcell,hwz⟩
 ·simp [Value.cells] at hcs
  obtain ⟨rfl,rfl,rfl⟩:=hcs
  exact ⟨none,[],0,rfl,Nat.le_refl _,RdZ.nil _ _ _⟩
 ·simp [Value.cells] at hcs
  obtain ⟨rfl,rfl,rfl⟩:=hcs
  simp only [if_true] at hz
  have hL:(zs.take len).length=len:=by rw [List.length_take];omega
  refine ⟨some x,zs.take len,cap,by rw [hL],by rw [hL];exact hl,by rw [hL];unfold maxLen at hm;omega,fun z hz=>bounds_i64 (hwz z (List.mem_of_mem_take hz)),fun hn=>?_⟩
  rw [hL] at hn
  obtain ⟨b,off,rfl,hb⟩:=addr_of (hcell 0 (by omega))
  refine ⟨b,off,rfl,hb,fun k hk=>?_⟩
  rw [hL] at hk
  have:=hcell k (by omega)
  rw [addr_add] at this
  rw [this]
  simp [hk]
end
end Go.Proofs.YtenkkdnepmoihaaGreatDoor
end
section
namespace Go.Proofs.YtenkkdnepmoihaaGreatDoor
open Go.ChangeShapes Go.WideShapes Go.ChangeAt Go.RowKit
theorem laidOut:laidOutB Tryz.prog=true:=by kernel_rfl
theorem own:ownKnob Tryz.prog.godebug=none:=by kernel_rfl
theorem gTab:Tryz.prog.globalNamed "wattle/crc.nibbles"=some 0:=by kernel_rfl
theorem gTabType:(Tryz.prog.globals[0]?).map (·.type)=some 164:=by kernel_rfl
theorem cellsTab:Tryz.prog.cellsOf 164=16:=by kernel_rfl
theorem cellsU32:Tryz.prog.cellsOf 145=1:=by kernel_rfl
def laidAll:List (String × DataW Unit):=[("wattle/crc.nibbles",Rows.laid_wattle_crc_nibbles)]
theorem table {W:World} (h:laidMetH Tryz.prog laidAll W):Lib.TabIs Tryz.prog W "wattle/crc.nibbles" .u32 (nibs.map fun n:Nat=>(n:Int)) :=
 Lib.tabIs_of_head (rest:=[]) gTab gTabType Tryz.underlying164 Tryz.underlying145 cellsU32 cellsTab h
theorem tabOk {W:World} (h:laidMetH Tryz.prog laidAll W):TabOk W:=fun i hi=>by
 have h1:=(table h).cell gTab i (by simpa [nibs] using hi)
 rw [h1,(show ∀ i,i < 16→(nibs.map fun n:Nat=>(n:Int)).getD i 0=((nibs.getD i 0:Nat):Int) by decide) i hi]
noncomputable def laidWorld (os:Os):World :=
 { World.holding Tryz.prog os ⟨#[],#[],[]⟩ with heap:=(World.holding Tryz.prog os ⟨#[],#[],[]⟩).heap.modify 0 fun
     | .cells _ t frozen=>.cells #[.int .u32 0,.int .u32 274646895,.int .u32 549293790,.int .u32 820201905,.int .u32 1098587580,.int .u32 1361435347,.int .u32 1640403810,.int .u32 1905808397,.int .u32 2197175160,.int .u32 2460548119,.int .u32 2722870694,.int .u32 2987750089,.int .u32 3280807620,.int .u32 3553878443,.int .u32 3811616794,.int .u32 4084100981] t frozen
     | o=>o }
end Go.Proofs.YtenkkdnepmoihaaGreatDoor
end
