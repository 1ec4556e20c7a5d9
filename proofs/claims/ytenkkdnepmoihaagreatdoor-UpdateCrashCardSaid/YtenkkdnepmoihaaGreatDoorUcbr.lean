/- Texts put together: UpdateCrashA, UpdateCrashB. -/
import Derived.Test.YtenkkdnepmoihaaGreatDoorUcbq
section
set_option maxRecDepth 20000
set_option linter.unusedVariables false
set_option linter.unusedSimpArgs false
namespace Go.Proofs.YtenkkdnepmoihaaGreatDoor
open Go.RowKit
noncomputable def codeUC:Code:=Tryz.f5.body.getD .skip
set_option maxRecDepth 100000 in
set_option maxHeartbeats 3200000 in
theorem ucA {W0:World} {nn l c r pn xz:Int} {D F W b gb gl:Nat} {lv:List Bool} {H:BH} {N:Bch} {x:List UInt8} {its:List It} {w:World} (u0 u1 u4 u5 u6 u7 u8 u9 u10 u11 u12 u13 u14 u18 u19 u20 u21 u22 u23 u24 u25 u26 u27 u28 u29 u30 u31 u32 u33 u34 u35 u36 u37 u38 u39 u40 u41 u42 u43 u44 u45 u46 u47 u48 u49 u50 u51 u52 u53 u54 u55 u56 u57 u58 u59 u60 u61 u62 u63 u64 u65 u66 u67 u68 u69 u70 u71 u72 u73 u74 u75 u76 u77 u78 u79 u80 u81 u82 u83 u84 u85 u86 u87 u88 u89 u90 u91 u92 u93 u94 u95 u96 u97 u98 u99 u100 u101 u102 u103 u104 u105 u106 u107 u108 u109 u110 u111 u112 u113 u114 u115 u116 u117 u118 u119 u120 u121 u122 u123 u124 u125 u126 u127 u128 u129 u130 u131 u132 u133 u134 u135 u136 u137 u138 u139 u140 u141 u142 u143 u144 u145 u146 u147 u148 u149 u150 u151 u152 u153 u154 u155 u156 u157 u158 u159 u160 u161 u162 u163 u164 u165 u166 u167 u168 u169 u170 u171 u172 u173 u174 u175 u176 u177 u178 u179 u180 u181 u182 u183 u184 u185 u186 u187 u188 u189 u190 u191 u192 u193 u194 u195 u196 u197 u198 u199 u200 u201 u202 u203 u204 u205 u206 u207 u208 u209 u210 u211 u212:Value) (K:Act→World→Prop) (Q0:Exit→Act→World→Prop) (hp:UpdP) (gr:Gr nn l c r D F W) (hk:KS W0 w b H N [(gl,Obj.cells (lv.map Value.bool).toArray 4 (0,0)),(gb,Obj.cells #[.int .i64 l,.int .i64 (D:Int),.int .i64 c] 24 (0,0))] [] []) (hll:lv.length=D) (hxz:(-9223372036854775808 ≤ xz∧xz ≤ 9223372036854775807)) (hpn:(-9223372036854775808 ≤ pn∧pn ≤ 9223372036854775807)) (hxe:sectorB xz=x) (hE:upE N lv l (D:Int) c pn x=0) (hU:upL N lv l (D:Int) c pn x=its) (hX:fillOk l (D:Int) c (plOfR l (D:Int) c pn) (upX N lv l (D:Int) c pn x)=true)
    (hK:∀ (v51 v52 v53 v54 v55 v56 v57 v58 v59 v60:Value) (p8:Nat) (Ai:Option Addr) (ci:Nat) (V:World),KU W0 V b H N ((p8,Obj.cells #[.int .i64 2,.slice Ai its.length ci] 43 (0,0))::[(gl,Obj.cells (lv.map Value.bool).toArray 4 (0,0)),(gb,Obj.cells #[.int .i64 l,.int .i64 (D:Int),.int .i64 c] 24 (0,0))]) [] [] [(Ai,its)]→its.length ≤ ci→K ⟨List.toArray (u0::u1::(.int .i64 pn)::(.int .i64 xz)::u4::u5::u6::u7::u8::u9::u10::u11::u12::u13::u14::(.pointer (some ⟨gb,0,none⟩))::(.pointer (some ⟨b,0,none⟩))::(.slice (some ⟨gl,0,none⟩) D D)::(.pointer (some ⟨p8,0,none⟩))::(.int .i64 0)::u20::u21::u22::u23::u24::u25::u26::u27::u28::u29::u30::u31::u32::u33::u34::u35::u36::u37::u38::u39::u40::u41::u42::u43::u44::u45::u46::u47::u48::u49::u50::v51::v52::v53::v54::v55::v56::v57::v58::v59::v60::u61::u62::u63::u64::u65::u66::u67::u68::u69::u70::u71::u72::u73::u74::u75::u76::u77::u78::u79::u80::u81::u82::u83::u84::u85::u86::u87::u88::u89::u90::u91::u92::u93::u94::u95::u96::u97::u98::u99::u100::u101::u102::u103::u104::u105::u106::u107::u108::u109::u110::u111::u112::u113::u114::u115::u116::u117::u118::u119::u120::u121::u122::u123::u124::u125::u126::u127::u128::u129::u130::u131::u132::u133::u134::u135::u136::u137::u138::u139::u140::u141::u142::u143::u144::u145::u146::u147::u148::u149::u150::u151::u152::u153::u154::u155::u156::u157::u158::u159::u160::u161::u162::u163::u164::u165::u166::u167::u168::u169::u170::u171::u172::u173::u174::u175::u176::u177::u178::u179::u180::u181::u182::u183::u184::u185::u186::u187::u188::u189::u190::u191::u192::u193::u194::u195::u196::u197::u198::u199::u200::u201::u202::u203::u204::u205::u206::u207::u208::u209::u210::u211::u212::[]),[]⟩ V) :
    Code.wp Tryz.prog (sub [1,1,1,1,1,1,1,0] codeUC) (Exit.then K Q0) ⟨List.toArray (u0::u1::(.int .i64 pn)::(.int .i64 xz)::u4::u5::u6::u7::u8::u9::u10::u11::u12::u13::u14::(.pointer (some ⟨gb,0,none⟩))::(.pointer (some ⟨b,0,none⟩))::(.slice (some ⟨gl,0,none⟩) D D)::u18::u19::u20::u21::u22::u23::u24::u25::u26::u27::u28::u29::u30::u31::u32::u33::u34::u35::u36::u37::u38::u39::u40::u41::u42::u43::u44::u45::u46::u47::u48::u49::u50::u51::u52::u53::u54::u55::u56::u57::u58::u59::u60::u61::u62::u63::u64::u65::u66::u67::u68::u69::u70::u71::u72::u73::u74::u75::u76::u77::u78::u79::u80::u81::u82::u83::u84::u85::u86::u87::u88::u89::u90::u91::u92::u93::u94::u95::u96::u97::u98::u99::u100::u101::u102::u103::u104::u105::u106::u107::u108::u109::u110::u111::u112::u113::u114::u115::u116::u117::u118::u119::u120::u121::u122::u123::u124::u125::u126::u127::u128::u129::u130::u131::u132::u133::u134::u135::u136::u137::u138::u139::u140::u141::u142::u143::u144::u145::u146::u147::u148::u149::u150::u151::u152::u153::u154::u155::u156::u157::u158::u159::u160::u161::u162::u163::u164::u165::u166::u167::u168::u169::u170::u171::u172::u173::u174::u175::u176::u177::u178::u179::u180::u181::u182::u183::u184::u185::u186::u187::u188::u189::u190::u191::u192::u193::u194::u195::u196::u197::u198::u199::u200::u201::u202::u203::u204::u205::u206::u207::u208::u209::u210::u211::u212::[]),[]⟩ w:=by
 have HK:=Lib.hid hK
 clear hK
 conv=>arg 2;whnf
 have hd8:=gr.d8
 have L1:=gr.l64
 have L2:=gr.d64
 have L3:=gr.c64
 have hx:=sectorB_len xz
 rw [hxe] at hx
 have CSe:=fun V=>sector_any xz V hxz
 rw [hxe] at CSe
 replace CSe:=Lib.hid CSe
 have hS:upS N lv l (D:Int) c pn x 2=2:=if_neg (fun q=>q hE)
 have CP:=fun (V:World) (gx:Nat) (k':KS W0 V b H N [(gl,Obj.cells (lv.map Value.bool).toArray 4 (0,0)),(gb,Obj.cells #[.int .i64 l,.int .i64 (D:Int),.int .i64 c] 24 (0,0))] [] [(some ⟨gx,0,none⟩,x)])=>hp.plan W0 V b H N k'.bp lv (some ⟨gl,0,none⟩) D D hll.symm (k'.lv (g:=gl) (t:=4) (f:=(0,0)) (lv:=lv) (by simp) rfl (by omega)) l (D:Int) c pn L1 L2 L3 hpn (some ⟨gx,0,none⟩) 32 32 x hx (Nat.le_refl _) (k'.sl (A:=some ⟨gx,0,none⟩) (bs:=x) (by simp)) 2 ⟨by omega,by omega⟩ (fun _=>hX)
 simp only [hS,hU,hE] at CP
 replace CP:=Lib.hid CP
 clear hp hxz hpn hxe hE hU hX gr hS
 refine wp_region_noPanic (region_ord 11 [9] (fun V=>GAt V gb l (D:Int) c) (by kernel_rfl) (by kernel_rfl) (fun _ _ _ _ _ h=>h) fun R=>?_)
 change anyI _ _ _ _ _ _ 13 _ _ w.drew
 have HS0:=Lib.hid (show (fun V=>GAt V gb l (D:Int) c) w.drew from (hk.below (Below.refl _ w).drew).gat (g:=gb) (l:=l) (d:=(D:Int)) (c:=c) (t:=24) (f:=(0,0)) (by simp))
 obtain ⟨V0,hV0⟩:∃ V,w.drew=V:=⟨_,rfl⟩
 rw [hV0] at HS0 ⊢
 have K0:=Lib.hid (show KS W0 V0 b H N [(gl,Obj.cells (lv.map Value.bool).toArray 4 (0,0)),(gb,Obj.cells #[.int .i64 l,.int .i64 (D:Int),.int .i64 c] 24 (0,0))] [] [] by rw [← hV0];exact hk.below (Below.refl _ w).drew)
 clear hV0
 refine' anyI_take R 0 rfl (v:=?_) (by kernel_rfl) (by rfl) (fun V hV=>?hy) HS0.out ?_
 case hy=>((try dsimp only at hV); obtain ⟨y0,y1,y2⟩:=hV;go_simp;try with_reducible rfl)
 try simp only [Act.put,List.getElem_toArray,List.getElem_cons_succ,List.getElem_cons_zero,List.setIfInBounds_toArray,List.set_cons_zero,List.set_cons_succ]
 refine' anyI_take R 1 rfl (v:=?_) (by kernel_rfl) (by rfl) (fun V hV=>?hy) HS0.out ?_
 case hy=>((try dsimp only at hV); obtain ⟨y0,y1,y2⟩:=hV;go_simp;try with_reducible rfl)
 try simp only [Act.put,List.getElem_toArray,List.getElem_cons_succ,List.getElem_cons_zero,List.setIfInBounds_toArray,List.set_cons_zero,List.set_cons_succ]
 refine' anyI_take R 2 rfl (v:=?_) (by kernel_rfl) (by rfl) (fun V hV=>?hy) HS0.out ?_
 case hy=>((try dsimp only at hV); obtain ⟨y0,y1,y2⟩:=hV;go_simp;try with_reducible rfl)
 try simp only [Act.put,List.getElem_toArray,List.getElem_cons_succ,List.getElem_cons_zero,List.setIfInBounds_toArray,List.set_cons_zero,List.set_cons_succ]
 refine' anyI_take R 3 rfl (v:=?_) (by kernel_rfl) (by rfl) (fun V hV=>?hy) HS0.out ?_
 case hy=>((try dsimp only at hV); obtain ⟨y0,y1,y2⟩:=hV;go_simp;try with_reducible rfl)
 try simp only [Act.put,List.getElem_toArray,List.getElem_cons_succ,List.getElem_cons_zero,List.setIfInBounds_toArray,List.set_cons_zero,List.set_cons_succ]
 refine' anyI_take R 4 rfl (v:=?_) (by kernel_rfl) (by rfl) (fun V hV=>?hy) HS0.out ?_
 case hy=>((try dsimp only at hV); obtain ⟨y0,y1,y2⟩:=hV;go_simp;try with_reducible rfl)
 try simp only [Act.put,List.getElem_toArray,List.getElem_cons_succ,List.getElem_cons_zero,List.setIfInBounds_toArray,List.set_cons_zero,List.set_cons_succ]
 refine anyI_two 5 10 (by kernel_rfl) rfl rfl ?_ ?_
 ·try simp only [List.getElem_toArray,List.getElem_cons_succ,List.getElem_cons_zero]
  refine opE_step ?_
  rw [if_pos (by rfl)]
  go_simp
  go_at_call 14
  (with_reducible refine (CSe.out _).mono ?_)
  rintro e wx0 ⟨gx,rfl,hxo,hbx⟩
  have K1:=Lib.hid (K0.out.slice hbx hxo.rdbf)
  replace HS0:=Lib.hid (show (fun V=>GAt V gb l (D:Int) c) wx0 from K1.out.gat (g:=gb) (l:=l) (d:=(D:Int)) (c:=c) (t:=24) (f:=(0,0)) (by simp))
  clear hbx hxo
  try dsimp only
  refine ⟨HS0.out,?_⟩
  try simp only [Act.put,List.getElem_toArray,List.getElem_cons_succ,List.getElem_cons_zero,List.setIfInBounds_toArray,List.set_cons_zero,List.set_cons_succ]
  refine anyI_two 6 10 (by kernel_rfl) rfl rfl ?_ ?_
  ·try simp only [List.getElem_toArray,List.getElem_cons_succ,List.getElem_cons_zero]
   refine opE_step ?_
   rw [if_pos (by rfl)]
   go_simp
   go_at_call 23
   (with_reducible refine (CP.out _ gx K1.out).mono ?_)
   rintro e wp1 ⟨Ai,ci,rfl,hci,hoi,hbi⟩
   have K2:=Lib.hid (K1.out.below hbi)
   have HF0:=K1.out.flt
   have HI0:=Lib.hid (show RdIF wp1 (BF b H N.n) Ai its from by
    obtain ⟨A',c',e',_,hr⟩:=hoi.rdF (F:=BF b H N.n) (fun k hk q=>by have:=HF0 k q;omega) (fun k hk q=>by have:=HF0 k q;omega)
    injection e' with e1 _ _
    rw [e1];exact hr)
   replace HS0:=Lib.hid (show (fun V=>GAt V gb l (D:Int) c) wp1 from K2.out.gat (g:=gb) (l:=l) (d:=(D:Int)) (c:=c) (t:=24) (f:=(0,0)) (by simp))
   clear hoi hbi HF0
   try dsimp only
   refine ⟨HS0.out,?_⟩
   try simp only [Act.put,List.getElem_toArray,List.getElem_cons_succ,List.getElem_cons_zero,List.setIfInBounds_toArray,List.set_cons_zero,List.set_cons_succ]
   refine' anyI_take R 7 rfl (v:=?_) (by kernel_rfl) (by rfl) (fun V hV=>?hy) HS0.out ?_
   case hy=>((try dsimp only at hV); obtain ⟨y0,y1,y2⟩:=hV;go_simp;try with_reducible rfl)
   try simp only [Act.put,List.getElem_toArray,List.getElem_cons_succ,List.getElem_cons_zero,List.setIfInBounds_toArray,List.set_cons_zero,List.set_cons_succ]
   refine' anyI_free R 9 rfl (v:=?_) (by kernel_rfl) (by rfl) (fun V=>?hy) ?_
   case hy=>(go_simp;try with_reducible rfl)
   try simp only [Act.put,List.getElem_toArray,List.getElem_cons_succ,List.getElem_cons_zero,List.setIfInBounds_toArray,List.set_cons_zero,List.set_cons_succ]
   refine' anyI_take R 8 rfl (v:=?_) (by kernel_rfl) (by rfl) (fun V hV=>?hy) HS0.out ?_
   case hy=>((try dsimp only at hV); obtain ⟨y0,y1,y2⟩:=hV;go_simp;try with_reducible rfl)
   try simp only [Act.put,List.getElem_toArray,List.getElem_cons_succ,List.getElem_cons_zero,List.setIfInBounds_toArray,List.set_cons_zero,List.set_cons_succ]
   refine anyI_one 10 (by kernel_rfl) rfl ?_
   try simp only [List.getElem_toArray,List.getElem_cons_succ,List.getElem_cons_zero]
   refine opE_step ?_
   rw [if_pos (by rfl)]
   go_simp
   obtain ⟨va2,hva⟩:∃ V2,wp1.alloc (.cells #[.int .i64 0,.slice none 0 0] 43 (0,0))=V2:=⟨_,rfl⟩
   rw [hva]
   obtain ⟨p8,hp8⟩:∃ p8,wp1.heap.size=p8:=⟨_,rfl⟩
   rw [hp8]
   have BX:=below1 wp1 (.cells #[.int .i64 0,.slice none 0 0] 43 (0,0))
   rw [hva] at BX
   have HP:=Lib.hid (show va2.heap[p8]?=some (.cells #[.int .i64 0,.slice none 0 0] 43 (0,0)) from by rw [← hva,← hp8];exact heap_alloc_new _ _)
   have HNw:=Lib.hid (K2.out.newer (p:=p8) (Nat.le_of_eq hp8))
   have K3:=Lib.hid (K2.out.below BX)
   have HI:=Lib.hid (show RdIF va2 (fun k=>BF b H N.n k∨k=p8) Ai its from (HI0.out.off (G:=fun k=>BF b H N.n k∨k=p8) (fun k hk e=>e.elim id (fun q=>by omega))).below BX)
   replace HS0:=Lib.hid (show (fun V=>GAt V gb l (D:Int) c) va2 from K3.out.gat (g:=gb) (l:=l) (d:=(D:Int)) (c:=c) (t:=24) (f:=(0,0)) (by simp))
   clear BX hva hp8
   try dsimp only
   refine ⟨HS0.out,?_⟩
   try simp only [Act.put,List.getElem_toArray,List.getElem_cons_succ,List.getElem_cons_zero,List.setIfInBounds_toArray,List.set_cons_zero,List.set_cons_succ]
   refine anyI_tail (by kernel_rfl) ?_
   try simp only [List.drop_succ_cons,List.drop_zero]
   clear R
   have K9:=Lib.hid (K3.out.less (K':=[(gl,Obj.cells (lv.map Value.bool).toArray 4 (0,0)),(gb,Obj.cells #[.int .i64 l,.int .i64 (D:Int),.int .i64 c] 24 (0,0))]) (R':=[]) (S':=[]) (fun _ h=>h) (fun _ h=>h) (fun _ h=>absurd h (by simp)))
   go_wp2_with (refine wpList_store_blk rfl 43 _ _ (by rfl) p8 0 (.agg #[.int .i64 2,.slice Ai its.length ci]) (by rfl) (by rfl) [.int .i64 0,.slice none 0 0] 43 HP.out [.int .i64 2,.slice Ai its.length ci] rfl 2 rfl (by kernel_rfl) (Nat.le_refl 2) (fun u hu=>by simp only [List.mem_cons,List.not_mem_nil,or_false] at hu;rcases hu with rfl | rfl <;> rfl) [.int .i64 2,.slice Ai its.length ci] (by rfl) ?_;intro w9 h9 g9)
   refine NoPanic.normal ?_
   obtain ⟨n1,n2,n3,_⟩:=HNw.out
   have k9:=K9.out.farS g9 n1 n2 n3 (Frm.nil _)
   have i9:RdIF w9 (BF b H N.n) Ai its:=(HI.out.chg (chg_grown g9) (fun k _ e=>.inr (by injection e with e;exact e.symm))).off (fun k _ e=>.inl e)
   have Kf:=Lib.hid (show KU W0 w9 b H N ((p8,Obj.cells #[.int .i64 2,.slice Ai its.length ci] 43 (0,0))::[(gl,Obj.cells (lv.map Value.bool).toArray 4 (0,0)),(gb,Obj.cells #[.int .i64 l,.int .i64 (D:Int),.int .i64 c] 24 (0,0))]) [] [] [(Ai,its)] from ⟨⟨⟨k9.bp,fun q hq=>by
    rcases List.mem_cons.1 hq with rfl | hq
    ·exact ⟨h9,n2,n1⟩
    ·exact k9.kx.kp q hq⟩,fun _ h=>absurd h (by simp),fun _ h=>absurd h (by simp)⟩,fun q hq=>by rw [List.mem_singleton.1 hq];exact i9⟩)
   go_wp2_with fail
   exact HK.out _ _ _ _ _ _ _ _ _ _ p8 Ai ci w9 Kf.out hci
  ·try simp only [List.getElem_toArray,List.getElem_cons_succ,List.getElem_cons_zero]
   refine opE_step ?_
   rw [if_pos (by rfl)]
   go_simp
   obtain ⟨va1,hva⟩:∃ V2,wx0.alloc (.cells #[.int .i64 0,.slice none 0 0] 43 (0,0))=V2:=⟨_,rfl⟩
   rw [hva]
   obtain ⟨p8,hp8⟩:∃ p8,wx0.heap.size=p8:=⟨_,rfl⟩
   rw [hp8]
   have BX:=below1 wx0 (.cells #[.int .i64 0,.slice none 0 0] 43 (0,0))
   rw [hva] at BX
   have HP:=Lib.hid (show va1.heap[p8]?=some (.cells #[.int .i64 0,.slice none 0 0] 43 (0,0)) from by rw [← hva,← hp8];exact heap_alloc_new _ _)
   have HNw:=Lib.hid (K1.out.newer (p:=p8) (Nat.le_of_eq hp8))
   have K2:=Lib.hid (K1.out.below BX)
   replace HS0:=Lib.hid (show (fun V=>GAt V gb l (D:Int) c) va1 from K2.out.gat (g:=gb) (l:=l) (d:=(D:Int)) (c:=c) (t:=24) (f:=(0,0)) (by simp))
   clear BX hva hp8
   try dsimp only
   refine ⟨HS0.out,?_⟩
   try simp only [Act.put,List.getElem_toArray,List.getElem_cons_succ,List.getElem_cons_zero,List.setIfInBounds_toArray,List.set_cons_zero,List.set_cons_succ]
   refine anyI_one 6 (by kernel_rfl) rfl ?_
   try simp only [List.getElem_toArray,List.getElem_cons_succ,List.getElem_cons_zero]
   refine opE_step ?_
   rw [if_pos (by rfl)]
   go_simp
   go_at_call 23
   (with_reducible refine (CP.out _ gx K2.out).mono ?_)
   rintro e wp2 ⟨Ai,ci,rfl,hci,hoi,hbi⟩
   have K3:=Lib.hid (K2.out.below hbi)
   have HF0:=K2.out.flt
   have HPl:=(Array.getElem?_eq_some_iff.1 HP.out).1
   have HI:=Lib.hid (show RdIF wp2 (fun k=>BF b H N.n k∨k=p8) Ai its from by
    obtain ⟨A',c',e',_,hr⟩:=hoi.rdF (F:=fun k=>BF b H N.n k∨k=p8) (fun k hk e=>e.elim (fun q=>by have:=HF0 k q;omega) (fun q=>by omega)) (fun k hk e=>e.elim (fun q=>by have:=HF0 k q;omega) (fun q=>by omega))
    injection e' with e1 _ _
    rw [e1];exact hr)
   replace HP:=Lib.hid ((hbi.block p8 (Array.getElem?_eq_some_iff.1 HP.out).1).trans HP.out)
   clear HPl
   replace HS0:=Lib.hid (show (fun V=>GAt V gb l (D:Int) c) wp2 from K3.out.gat (g:=gb) (l:=l) (d:=(D:Int)) (c:=c) (t:=24) (f:=(0,0)) (by simp))
   clear hoi hbi HF0
   try dsimp only
   refine ⟨HS0.out,?_⟩
   try simp only [Act.put,List.getElem_toArray,List.getElem_cons_succ,List.getElem_cons_zero,List.setIfInBounds_toArray,List.set_cons_zero,List.set_cons_succ]
   refine' anyI_take R 7 rfl (v:=?_) (by kernel_rfl) (by rfl) (fun V hV=>?hy) HS0.out ?_
   case hy=>((try dsimp only at hV); obtain ⟨y0,y1,y2⟩:=hV;go_simp;try with_reducible rfl)
   try simp only [Act.put,List.getElem_toArray,List.getElem_cons_succ,List.getElem_cons_zero,List.setIfInBounds_toArray,List.set_cons_zero,List.set_cons_succ]
   refine' anyI_free R 9 rfl (v:=?_) (by kernel_rfl) (by rfl) (fun V=>?hy) ?_
   case hy=>(go_simp;try with_reducible rfl)
   try simp only [Act.put,List.getElem_toArray,List.getElem_cons_succ,List.getElem_cons_zero,List.setIfInBounds_toArray,List.set_cons_zero,List.set_cons_succ]
   refine' anyI_take R 8 rfl (v:=?_) (by kernel_rfl) (by rfl) (fun V hV=>?hy) HS0.out ?_
   case hy=>((try dsimp only at hV); obtain ⟨y0,y1,y2⟩:=hV;go_simp;try with_reducible rfl)
   try simp only [Act.put,List.getElem_toArray,List.getElem_cons_succ,List.getElem_cons_zero,List.setIfInBounds_toArray,List.set_cons_zero,List.set_cons_succ]
   refine anyI_tail (by kernel_rfl) ?_
   try simp only [List.drop_succ_cons,List.drop_zero]
   clear R
   have K9:=Lib.hid (K3.out.less (K':=[(gl,Obj.cells (lv.map Value.bool).toArray 4 (0,0)),(gb,Obj.cells #[.int .i64 l,.int .i64 (D:Int),.int .i64 c] 24 (0,0))]) (R':=[]) (S':=[]) (fun _ h=>h) (fun _ h=>h) (fun _ h=>absurd h (by simp)))
   go_wp2_with (refine wpList_store_blk rfl 43 _ _ (by rfl) p8 0 (.agg #[.int .i64 2,.slice Ai its.length ci]) (by rfl) (by rfl) [.int .i64 0,.slice none 0 0] 43 HP.out [.int .i64 2,.slice Ai its.length ci] rfl 2 rfl (by kernel_rfl) (Nat.le_refl 2) (fun u hu=>by simp only [List.mem_cons,List.not_mem_nil,or_false] at hu;rcases hu with rfl | rfl <;> rfl) [.int .i64 2,.slice Ai its.length ci] (by rfl) ?_;intro w9 h9 g9)
   refine NoPanic.normal ?_
   obtain ⟨n1,n2,n3,_⟩:=HNw.out
   have k9:=K9.out.farS g9 n1 n2 n3 (Frm.nil _)
   have i9:RdIF w9 (BF b H N.n) Ai its:=(HI.out.chg (chg_grown g9) (fun k _ e=>.inr (by injection e with e;exact e.symm))).off (fun k _ e=>.inl e)
   have Kf:=Lib.hid (show KU W0 w9 b H N ((p8,Obj.cells #[.int .i64 2,.slice Ai its.length ci] 43 (0,0))::[(gl,Obj.cells (lv.map Value.bool).toArray 4 (0,0)),(gb,Obj.cells #[.int .i64 l,.int .i64 (D:Int),.int .i64 c] 24 (0,0))]) [] [] [(Ai,its)] from ⟨⟨⟨k9.bp,fun q hq=>by
    rcases List.mem_cons.1 hq with rfl | hq
    ·exact ⟨h9,n2,n1⟩
    ·exact k9.kx.kp q hq⟩,fun _ h=>absurd h (by simp),fun _ h=>absurd h (by simp)⟩,fun q hq=>by rw [List.mem_singleton.1 hq];exact i9⟩)
   go_wp2_with fail
   exact HK.out _ _ _ _ _ _ _ _ _ _ p8 Ai ci w9 Kf.out hci
 ·try simp only [List.getElem_toArray,List.getElem_cons_succ,List.getElem_cons_zero]
  refine opE_step ?_
  rw [if_pos (by rfl)]
  go_simp
  obtain ⟨va0,hva⟩:∃ V2,V0.alloc (.cells #[.int .i64 0,.slice none 0 0] 43 (0,0))=V2:=⟨_,rfl⟩
  rw [hva]
  obtain ⟨p8,hp8⟩:∃ p8,V0.heap.size=p8:=⟨_,rfl⟩
  rw [hp8]
  have BX:=below1 V0 (.cells #[.int .i64 0,.slice none 0 0] 43 (0,0))
  rw [hva] at BX
  have HP:=Lib.hid (show va0.heap[p8]?=some (.cells #[.int .i64 0,.slice none 0 0] 43 (0,0)) from by rw [← hva,← hp8];exact heap_alloc_new _ _)
  have HNw:=Lib.hid (K0.out.newer (p:=p8) (Nat.le_of_eq hp8))
  have K1:=Lib.hid (K0.out.below BX)
  replace HS0:=Lib.hid (show (fun V=>GAt V gb l (D:Int) c) va0 from K1.out.gat (g:=gb) (l:=l) (d:=(D:Int)) (c:=c) (t:=24) (f:=(0,0)) (by simp))
  clear BX hva hp8
  try dsimp only
  refine ⟨HS0.out,?_⟩
  try simp only [Act.put,List.getElem_toArray,List.getElem_cons_succ,List.getElem_cons_zero,List.setIfInBounds_toArray,List.set_cons_zero,List.set_cons_succ]
  refine anyI_one 5 (by kernel_rfl) rfl ?_
  try simp only [List.getElem_toArray,List.getElem_cons_succ,List.getElem_cons_zero]
  refine opE_step ?_
  rw [if_pos (by rfl)]
  go_simp
  go_at_call 14
  (with_reducible refine (CSe.out _).mono ?_)
  rintro e wx1 ⟨gx,rfl,hxo,hbx⟩
  have K2:=Lib.hid (K1.out.slice hbx hxo.rdbf)
  replace HS0:=Lib.hid (show (fun V=>GAt V gb l (D:Int) c) wx1 from K2.out.gat (g:=gb) (l:=l) (d:=(D:Int)) (c:=c) (t:=24) (f:=(0,0)) (by simp))
  replace HP:=Lib.hid ((hbx.block p8 (Array.getElem?_eq_some_iff.1 HP.out).1).trans HP.out)
  clear hbx hxo
  try dsimp only
  refine ⟨HS0.out,?_⟩
  try simp only [Act.put,List.getElem_toArray,List.getElem_cons_succ,List.getElem_cons_zero,List.setIfInBounds_toArray,List.set_cons_zero,List.set_cons_succ]
  refine anyI_one 6 (by kernel_rfl) rfl ?_
  try simp only [List.getElem_toArray,List.getElem_cons_succ,List.getElem_cons_zero]
  refine opE_step ?_
  rw [if_pos (by rfl)]
  go_simp
  go_at_call 23
  (with_reducible refine (CP.out _ gx K2.out).mono ?_)
  rintro e wp2 ⟨Ai,ci,rfl,hci,hoi,hbi⟩
  have K3:=Lib.hid (K2.out.below hbi)
  have HF0:=K2.out.flt
  have HPl:=(Array.getElem?_eq_some_iff.1 HP.out).1
  have HI:=Lib.hid (show RdIF wp2 (fun k=>BF b H N.n k∨k=p8) Ai its from by
   obtain ⟨A',c',e',_,hr⟩:=hoi.rdF (F:=fun k=>BF b H N.n k∨k=p8) (fun k hk e=>e.elim (fun q=>by have:=HF0 k q;omega) (fun q=>by omega)) (fun k hk e=>e.elim (fun q=>by have:=HF0 k q;omega) (fun q=>by omega))
   injection e' with e1 _ _
   rw [e1];exact hr)
  replace HP:=Lib.hid ((hbi.block p8 (Array.getElem?_eq_some_iff.1 HP.out).1).trans HP.out)
  clear HPl
  replace HS0:=Lib.hid (show (fun V=>GAt V gb l (D:Int) c) wp2 from K3.out.gat (g:=gb) (l:=l) (d:=(D:Int)) (c:=c) (t:=24) (f:=(0,0)) (by simp))
  clear hoi hbi HF0
  try dsimp only
  refine ⟨HS0.out,?_⟩
  try simp only [Act.put,List.getElem_toArray,List.getElem_cons_succ,List.getElem_cons_zero,List.setIfInBounds_toArray,List.set_cons_zero,List.set_cons_succ]
  refine' anyI_take R 7 rfl (v:=?_) (by kernel_rfl) (by rfl) (fun V hV=>?hy) HS0.out ?_
  case hy=>((try dsimp only at hV); obtain ⟨y0,y1,y2⟩:=hV;go_simp;try with_reducible rfl)
  try simp only [Act.put,List.getElem_toArray,List.getElem_cons_succ,List.getElem_cons_zero,List.setIfInBounds_toArray,List.set_cons_zero,List.set_cons_succ]
  refine' anyI_free R 9 rfl (v:=?_) (by kernel_rfl) (by rfl) (fun V=>?hy) ?_
  case hy=>(go_simp;try with_reducible rfl)
  try simp only [Act.put,List.getElem_toArray,List.getElem_cons_succ,List.getElem_cons_zero,List.setIfInBounds_toArray,List.set_cons_zero,List.set_cons_succ]
  refine' anyI_take R 8 rfl (v:=?_) (by kernel_rfl) (by rfl) (fun V hV=>?hy) HS0.out ?_
  case hy=>((try dsimp only at hV); obtain ⟨y0,y1,y2⟩:=hV;go_simp;try with_reducible rfl)
  try simp only [Act.put,List.getElem_toArray,List.getElem_cons_succ,List.getElem_cons_zero,List.setIfInBounds_toArray,List.set_cons_zero,List.set_cons_succ]
  refine anyI_tail (by kernel_rfl) ?_
  try simp only [List.drop_succ_cons,List.drop_zero]
  clear R
  have K9:=Lib.hid (K3.out.less (K':=[(gl,Obj.cells (lv.map Value.bool).toArray 4 (0,0)),(gb,Obj.cells #[.int .i64 l,.int .i64 (D:Int),.int .i64 c] 24 (0,0))]) (R':=[]) (S':=[]) (fun _ h=>h) (fun _ h=>h) (fun _ h=>absurd h (by simp)))
  go_wp2_with (refine wpList_store_blk rfl 43 _ _ (by rfl) p8 0 (.agg #[.int .i64 2,.slice Ai its.length ci]) (by rfl) (by rfl) [.int .i64 0,.slice none 0 0] 43 HP.out [.int .i64 2,.slice Ai its.length ci] rfl 2 rfl (by kernel_rfl) (Nat.le_refl 2) (fun u hu=>by simp only [List.mem_cons,List.not_mem_nil,or_false] at hu;rcases hu with rfl | rfl <;> rfl) [.int .i64 2,.slice Ai its.length ci] (by rfl) ?_;intro w9 h9 g9)
  refine NoPanic.normal ?_
  obtain ⟨n1,n2,n3,_⟩:=HNw.out
  have k9:=K9.out.farS g9 n1 n2 n3 (Frm.nil _)
  have i9:RdIF w9 (BF b H N.n) Ai its:=(HI.out.chg (chg_grown g9) (fun k _ e=>.inr (by injection e with e;exact e.symm))).off (fun k _ e=>.inl e)
  have Kf:=Lib.hid (show KU W0 w9 b H N ((p8,Obj.cells #[.int .i64 2,.slice Ai its.length ci] 43 (0,0))::[(gl,Obj.cells (lv.map Value.bool).toArray 4 (0,0)),(gb,Obj.cells #[.int .i64 l,.int .i64 (D:Int),.int .i64 c] 24 (0,0))]) [] [] [(Ai,its)] from ⟨⟨⟨k9.bp,fun q hq=>by
   rcases List.mem_cons.1 hq with rfl | hq
   ·exact ⟨h9,n2,n1⟩
   ·exact k9.kx.kp q hq⟩,fun _ h=>absurd h (by simp),fun _ h=>absurd h (by simp)⟩,fun q hq=>by rw [List.mem_singleton.1 hq];exact i9⟩)
  go_wp2_with fail
  exact HK.out _ _ _ _ _ _ _ _ _ _ p8 Ai ci w9 Kf.out hci
set_option maxRecDepth 100000 in
set_option maxHeartbeats 3200000 in
theorem ucB {W0:World} {l c:Int} {D b gb gl:Nat} {lv:List Bool} {KL:List (Nat × Obj)} {I:List (Option Addr × List It)} {H:BH} {N:Bch} {lim:Int} {w:World} (u0 u1 u2 u3 u5 u6 u7 u8 u9 u10 u11 u12 u13 u14 u17 u18 u19 u20 u21 u22 u23 u24 u25 u26 u27 u28 u29 u30 u31 u32 u33 u34 u35 u36 u37 u38 u39 u40 u41 u42 u43 u44 u45 u46 u47 u48 u49 u50 u51 u52 u53 u54 u55 u56 u57 u58 u59 u60 u61 u62 u63 u64 u65 u66 u67 u68 u69 u70 u71 u72 u73 u74 u75 u76 u77 u78 u79 u80 u81 u82 u83 u84 u85 u86 u87 u88 u89 u90 u91 u92 u93 u94 u95 u96 u97 u98 u99 u100 u101 u102 u103 u104 u105 u106 u107 u108 u109 u110 u111 u112 u113 u114 u115 u116 u117 u118 u119 u120 u121 u122 u123 u124 u125 u126 u127 u128 u129 u130 u131 u132 u133 u134 u135 u136 u137 u138 u139 u140 u141 u142 u143 u144 u145 u146 u147 u148 u149 u150 u151 u152 u153 u154 u155 u156 u157 u158 u159 u160 u161 u162 u163 u164 u165 u166 u167 u168 u169 u170 u171 u172 u173 u174 u175 u176 u177 u178 u179 u180 u181 u182 u183 u184 u185 u186 u187 u188 u189 u190 u191 u192 u193 u194 u195 u196 u197 u198 u199 u200 u201 u202 u203 u204 u205 u206 u207 u208 u209 u210 u211 u212:Value) (K:Act→World→Prop) (Q0:Exit→Act→World→Prop) (hk:KU W0 w b H N KL [] [] I) (hG:(gb,Obj.cells #[.int .i64 l,.int .i64 (D:Int),.int .i64 c] 24 (0,0)) ∈ KL) (hlim:(-9223372036854775808 ≤ lim∧lim ≤ 9223372036854775807)) (hD:3 ≤ D∧D ≤ 8) (hdn:N.down=false)
    (hK:∀ (v69 v70 v71 v72 v73 v74 v75 v76 v77 v78:Value) (v:Nat) (H2:BH) (V:World),KU W0 V b H2 { N with left:=(v:Int) } KL [] [] I→K ⟨List.toArray (u0::u1::u2::u3::(.int .i64 lim)::u5::u6::u7::u8::u9::u10::u11::u12::u13::u14::(.pointer (some ⟨gb,0,none⟩))::(.pointer (some ⟨b,0,none⟩))::u17::u18::u19::u20::u21::u22::u23::u24::u25::u26::u27::u28::u29::u30::u31::u32::u33::u34::u35::u36::u37::u38::u39::u40::u41::u42::u43::u44::u45::u46::u47::u48::u49::u50::u51::u52::u53::u54::u55::u56::u57::u58::u59::u60::u61::u62::u63::u64::u65::u66::u67::u68::v69::v70::v71::v72::v73::v74::v75::v76::v77::v78::u79::u80::u81::u82::u83::u84::u85::u86::u87::u88::u89::u90::u91::u92::u93::u94::u95::u96::u97::u98::u99::u100::u101::u102::u103::u104::u105::u106::u107::u108::u109::u110::u111::u112::u113::u114::u115::u116::u117::u118::u119::u120::u121::u122::u123::u124::u125::u126::u127::u128::u129::u130::u131::u132::u133::u134::u135::u136::u137::u138::u139::u140::u141::u142::u143::u144::u145::u146::u147::u148::u149::u150::u151::u152::u153::u154::u155::u156::u157::u158::u159::u160::u161::u162::u163::u164::u165::u166::u167::u168::u169::u170::u171::u172::u173::u174::u175::u176::u177::u178::u179::u180::u181::u182::u183::u184::u185::u186::u187::u188::u189::u190::u191::u192::u193::u194::u195::u196::u197::u198::u199::u200::u201::u202::u203::u204::u205::u206::u207::u208::u209::u210::u211::u212::[]),[]⟩ V) :
    Code.wp Tryz.prog (sub [1,1,1,1,1,1,1,1,1,1,0] codeUC) (Exit.then K Q0) ⟨List.toArray (u0::u1::u2::u3::(.int .i64 lim)::u5::u6::u7::u8::u9::u10::u11::u12::u13::u14::(.pointer (some ⟨gb,0,none⟩))::(.pointer (some ⟨b,0,none⟩))::u17::u18::u19::u20::u21::u22::u23::u24::u25::u26::u27::u28::u29::u30::u31::u32::u33::u34::u35::u36::u37::u38::u39::u40::u41::u42::u43::u44::u45::u46::u47::u48::u49::u50::u51::u52::u53::u54::u55::u56::u57::u58::u59::u60::u61::u62::u63::u64::u65::u66::u67::u68::u69::u70::u71::u72::u73::u74::u75::u76::u77::u78::u79::u80::u81::u82::u83::u84::u85::u86::u87::u88::u89::u90::u91::u92::u93::u94::u95::u96::u97::u98::u99::u100::u101::u102::u103::u104::u105::u106::u107::u108::u109::u110::u111::u112::u113::u114::u115::u116::u117::u118::u119::u120::u121::u122::u123::u124::u125::u126::u127::u128::u129::u130::u131::u132::u133::u134::u135::u136::u137::u138::u139::u140::u141::u142::u143::u144::u145::u146::u147::u148::u149::u150::u151::u152::u153::u154::u155::u156::u157::u158::u159::u160::u161::u162::u163::u164::u165::u166::u167::u168::u169::u170::u171::u172::u173::u174::u175::u176::u177::u178::u179::u180::u181::u182::u183::u184::u185::u186::u187::u188::u189::u190::u191::u192::u193::u194::u195::u196::u197::u198::u199::u200::u201::u202::u203::u204::u205::u206::u207::u208::u209::u210::u211::u212::[]),[]⟩ w:=by
 have HK:=Lib.hid hK
 clear hK
 conv=>arg 2;whnf
 have CW:=fun V=>within_any lim (4 * (D:Int) + 5) V hlim (by omega)
 have hab:=withinI_bd lim (4 * (D:Int) + 5) (by omega)
 obtain ⟨v,hv⟩:=Int.eq_ofNat_of_zero_le hab.1
 rw [hv] at CW hab
 replace CW:=Lib.hid CW
 have Hm1:IntKind.i64.wrap (4 * (D:Int))=4 * (D:Int):=by rw [IntKind.wrap_i64];omega
 have Hm2:=Lib.hid (show IntKind.i64.wrap (4 * (D:Int) + 5)=4 * (D:Int) + 5 by rw [IntKind.wrap_i64];omega)
 have hkd:KU W0 w.drew b H N KL [] [] I:=⟨hk.ks.below (Below.refl _ w).drew,fun p hp=>(hk.it p hp).below (Below.refl _ w).drew⟩
 have CLm:=ku_limit hkd (v:Int) ⟨by omega,by omega⟩
 have el:N.limit (v:Int)={ N with left:=(v:Int) }:=by
  unfold Bch.limit
  rw [if_neg (by rw [hdn];decide),show max (v:Int) (-1)=(v:Int) by omega]
 rw [el] at CLm
 replace CLm:=Lib.hid CLm
 clear hv el
 refine wp_region_noPanic (region_ord 10 [] (fun V=>GAt V gb l (D:Int) c) (by kernel_rfl) (by kernel_rfl) (fun _ _ _ _ _ h=>h) fun R=>?_)
 change anyI _ _ _ _ _ _ 10 _ _ w.drew
 have HS0:=Lib.hid (show (fun V=>GAt V gb l (D:Int) c) w.drew from (hk.ks.below (Below.refl _ w).drew).gat hG)
 refine' anyI_take R 0 rfl (v:=?_) (by kernel_rfl) (by rfl) (fun V hV=>?hy) HS0.out ?_
 case hy=>((try dsimp only at hV); obtain ⟨y0,y1,y2⟩:=hV;go_simp;try with_reducible rfl)
 try simp only [Act.put,List.getElem_toArray,List.getElem_cons_succ,List.getElem_cons_zero,List.setIfInBounds_toArray,List.set_cons_zero,List.set_cons_succ]
 refine' anyI_take R 1 rfl (v:=?_) (by kernel_rfl) (by rfl) (fun V hV=>?hy) HS0.out ?_
 case hy=>((try dsimp only at hV); obtain ⟨y0,y1,y2⟩:=hV;go_simp;try with_reducible rfl)
 try simp only [Act.put,List.getElem_toArray,List.getElem_cons_succ,List.getElem_cons_zero,List.setIfInBounds_toArray,List.set_cons_zero,List.set_cons_succ]
 refine' anyI_take R 2 rfl (v:=?_) (by kernel_rfl) (by rfl) (fun V hV=>?hy) HS0.out ?_
 case hy=>((try dsimp only at hV); obtain ⟨y0,y1,y2⟩:=hV;go_simp;try with_reducible rfl)
 try simp only [Act.put,List.getElem_toArray,List.getElem_cons_succ,List.getElem_cons_zero,List.setIfInBounds_toArray,List.set_cons_zero,List.set_cons_succ]
 refine' anyI_take R 3 rfl (v:=?_) (by kernel_rfl) (by rfl) (fun V hV=>?hy) HS0.out ?_
 case hy=>((try dsimp only at hV); obtain ⟨y0,y1,y2⟩:=hV;go_simp;try with_reducible rfl)
 try simp only [Act.put,List.getElem_toArray,List.getElem_cons_succ,List.getElem_cons_zero,List.setIfInBounds_toArray,List.set_cons_zero,List.set_cons_succ]
 refine' anyI_take R 4 rfl (v:=?_) (by kernel_rfl) (by rfl) (fun V hV=>?hy) HS0.out ?_
 case hy=>((try dsimp only at hV); obtain ⟨y0,y1,y2⟩:=hV;go_simp;try with_reducible rfl)
 try simp only [Act.put,List.getElem_toArray,List.getElem_cons_succ,List.getElem_cons_zero,List.setIfInBounds_toArray,List.set_cons_zero,List.set_cons_succ]
 refine' anyI_take R 5 rfl (v:=?_) (by kernel_rfl) (by rfl) (fun V hV=>?hy) HS0.out ?_
 case hy=>((try dsimp only at hV); obtain ⟨y0,y1,y2⟩:=hV;go_simp;try with_reducible rfl)
 try simp only [Act.put,List.getElem_toArray,List.getElem_cons_succ,List.getElem_cons_zero,List.setIfInBounds_toArray,List.set_cons_zero,List.set_cons_succ]
 refine' anyI_take R 6 rfl (v:=?_) (by kernel_rfl) (by rfl) (fun V hV=>?hy) HS0.out ?_
 case hy=>((try dsimp only at hV); obtain ⟨y0,y1,y2⟩:=hV;go_simp;try with_reducible rfl)
 try simp only [Act.put,List.getElem_toArray,List.getElem_cons_succ,List.getElem_cons_zero,List.setIfInBounds_toArray,List.set_cons_zero,List.set_cons_succ]
 refine' anyI_take R 7 rfl (v:=?_) (by kernel_rfl) (by rfl) (fun V hV=>?hy) HS0.out ?_
 case hy=>((try dsimp only at hV); obtain ⟨y0,y1,y2⟩:=hV;go_simp;try with_reducible rfl)
 try simp only [Act.put,List.getElem_toArray,List.getElem_cons_succ,List.getElem_cons_zero,List.setIfInBounds_toArray,List.set_cons_zero,List.set_cons_succ]
 refine anyI_one 8 (by kernel_rfl) rfl ?_
 try simp only [List.getElem_toArray,List.getElem_cons_succ,List.getElem_cons_zero]
 refine opE_step ?_
 rw [if_pos (by rfl)]
 go_simp
 go_at_call 10
 rw [Hm2.out]
 (with_reducible refine (CW.out _).mono ?_)
 rintro e wn ⟨rfl,h5⟩
 obtain rfl:w.drew=wn:=h5.symm
 try dsimp only
 refine ⟨HS0.out,?_⟩
 try simp only [Act.put,List.getElem_toArray,List.getElem_cons_succ,List.getElem_cons_zero,List.setIfInBounds_toArray,List.set_cons_zero,List.set_cons_succ]
 refine anyI_one 9 (by kernel_rfl) rfl ?_
 try simp only [List.getElem_toArray,List.getElem_cons_succ,List.getElem_cons_zero]
 refine opE_step ?_
 rw [if_pos (by rfl)]
 go_simp
 go_at_call 25
 (with_reducible refine (CLm.out).mono ?_)
 rintro e w9 ⟨rfl,H9,k9⟩
 have K9:=Lib.hid k9
 replace HS0:=Lib.hid (show (fun V=>GAt V gb l (D:Int) c) w9 from K9.out.ks.gat hG)
 clear k9
 try dsimp only
 refine ⟨HS0.out,?_⟩
 try simp only [Act.put,List.getElem_toArray,List.getElem_cons_succ,List.getElem_cons_zero,List.setIfInBounds_toArray,List.set_cons_zero,List.set_cons_succ]
 refine anyI_tail (by kernel_rfl) ?_
 try simp only [List.drop_succ_cons,List.drop_zero]
 clear R
 go_wp2_with fail
 refine NoPanic.normal ?_
 exact HK.out _ _ _ _ _ _ _ _ _ _ v H9 w9 K9.out
set_option maxRecDepth 100000 in
set_option maxHeartbeats 3200000 in
theorem ucC {W0:World} {nn l c r pn xz e0:Int} {D F W b gb gl:Nat} {lv:List Bool} {KL:List (Nat × Obj)} {I:List (Option Addr × List It)} {H:BH} {N M:Bch} {x:List UInt8} {w:World} (u0 u1 u4 u5 u6 u7 u8 u9 u10 u11 u12 u13 u14 u18 u19 u20 u21 u22 u23 u24 u25 u26 u27 u28 u29 u30 u31 u32 u33 u34 u35 u36 u37 u38 u39 u40 u41 u42 u43 u44 u45 u46 u47 u48 u49 u50 u51 u52 u53 u54 u55 u56 u57 u58 u59 u60 u61 u62 u63 u64 u65 u66 u67 u68 u69 u70 u71 u72 u73 u74 u75 u76 u77 u78 u79 u80 u81 u82 u83 u84 u85 u86 u87 u88 u89 u90 u91 u92 u93 u94 u95 u96 u97 u98 u99 u100 u101 u102 u103 u104 u105 u106 u107 u108 u109 u110 u111 u112 u113 u114 u115 u116 u117 u118 u119 u120 u121 u122 u123 u124 u125 u126 u127 u128 u129 u130 u131 u132 u133 u134 u135 u136 u137 u138 u139 u140 u141 u142 u143 u144 u145 u146 u147 u148 u149 u150 u151 u152 u153 u154 u155 u156 u157 u158 u159 u160 u161 u162 u163 u164 u165 u166 u167 u168 u169 u170 u171 u172 u173 u174 u175 u176 u177 u178 u179 u180 u181 u182 u183 u184 u185 u186 u187 u188 u189 u190 u191 u192 u193 u194 u195 u196 u197 u198 u199 u200 u201 u202 u203 u204 u205 u206 u207 u208 u209 u210 u211 u212:Value) (K:Act→World→Prop) (Q0:Exit→Act→World→Prop) (hu:UpdC) (ht:TabOk W0) (gr:Gr nn l c r D F W) (hk:KU W0 w b H N KL [] [] I) (hG:(gb,Obj.cells #[.int .i64 l,.int .i64 (D:Int),.int .i64 c] 24 (0,0)) ∈ KL) (hGl:(gl,Obj.cells (lv.map Value.bool).toArray 4 (0,0)) ∈ KL) (hll:lv.length=D) (hxz:(-9223372036854775808 ≤ xz∧xz ≤ 9223372036854775807)) (hpn:(-9223372036854775808 ≤ pn∧pn ≤ 9223372036854775807)) (hxe:sectorB xz=x) (hdo:doS N lv l (D:Int) c pn x 2=(e0,M)) (hX:upE N lv l (D:Int) c pn x=0→fillOk l (D:Int) c (plOfR l (D:Int) c pn) (upX N lv l (D:Int) c pn x)=true) (hps:∀ i,i < N.n→(N.D i).ps.length ≤ 900000) (hdn:N.done ≤ 900000)
    (hK:∀ (v79 v80 v81 v82 v83 v84 v85:Value) (H2:BH) (V:World),KU W0 V b H2 M KL [] [] I→K ⟨List.toArray (u0::u1::(.int .i64 pn)::(.int .i64 xz)::u4::u5::u6::u7::u8::u9::u10::u11::u12::u13::u14::(.pointer (some ⟨gb,0,none⟩))::(.pointer (some ⟨b,0,none⟩))::(.slice (some ⟨gl,0,none⟩) D D)::u18::(.int .i64 e0)::u20::u21::u22::u23::u24::u25::u26::u27::u28::u29::u30::u31::u32::u33::u34::u35::u36::u37::u38::u39::u40::u41::u42::u43::u44::u45::u46::u47::u48::u49::u50::u51::u52::u53::u54::u55::u56::u57::u58::u59::u60::u61::u62::u63::u64::u65::u66::u67::u68::u69::u70::u71::u72::u73::u74::u75::u76::u77::u78::v79::v80::v81::v82::v83::v84::v85::u86::u87::u88::u89::u90::u91::u92::u93::u94::u95::u96::u97::u98::u99::u100::u101::u102::u103::u104::u105::u106::u107::u108::u109::u110::u111::u112::u113::u114::u115::u116::u117::u118::u119::u120::u121::u122::u123::u124::u125::u126::u127::u128::u129::u130::u131::u132::u133::u134::u135::u136::u137::u138::u139::u140::u141::u142::u143::u144::u145::u146::u147::u148::u149::u150::u151::u152::u153::u154::u155::u156::u157::u158::u159::u160::u161::u162::u163::u164::u165::u166::u167::u168::u169::u170::u171::u172::u173::u174::u175::u176::u177::u178::u179::u180::u181::u182::u183::u184::u185::u186::u187::u188::u189::u190::u191::u192::u193::u194::u195::u196::u197::u198::u199::u200::u201::u202::u203::u204::u205::u206::u207::u208::u209::u210::u211::u212::[]),[]⟩ V) :
    Code.wp Tryz.prog (sub [1,1,1,1,1,1,1,1,1,1,1,0] codeUC) (Exit.then K Q0) ⟨List.toArray (u0::u1::(.int .i64 pn)::(.int .i64 xz)::u4::u5::u6::u7::u8::u9::u10::u11::u12::u13::u14::(.pointer (some ⟨gb,0,none⟩))::(.pointer (some ⟨b,0,none⟩))::(.slice (some ⟨gl,0,none⟩) D D)::u18::u19::u20::u21::u22::u23::u24::u25::u26::u27::u28::u29::u30::u31::u32::u33::u34::u35::u36::u37::u38::u39::u40::u41::u42::u43::u44::u45::u46::u47::u48::u49::u50::u51::u52::u53::u54::u55::u56::u57::u58::u59::u60::u61::u62::u63::u64::u65::u66::u67::u68::u69::u70::u71::u72::u73::u74::u75::u76::u77::u78::u79::u80::u81::u82::u83::u84::u85::u86::u87::u88::u89::u90::u91::u92::u93::u94::u95::u96::u97::u98::u99::u100::u101::u102::u103::u104::u105::u106::u107::u108::u109::u110::u111::u112::u113::u114::u115::u116::u117::u118::u119::u120::u121::u122::u123::u124::u125::u126::u127::u128::u129::u130::u131::u132::u133::u134::u135::u136::u137::u138::u139::u140::u141::u142::u143::u144::u145::u146::u147::u148::u149::u150::u151::u152::u153::u154::u155::u156::u157::u158::u159::u160::u161::u162::u163::u164::u165::u166::u167::u168::u169::u170::u171::u172::u173::u174::u175::u176::u177::u178::u179::u180::u181::u182::u183::u184::u185::u186::u187::u188::u189::u190::u191::u192::u193::u194::u195::u196::u197::u198::u199::u200::u201::u202::u203::u204::u205::u206::u207::u208::u209::u210::u211::u212::[]),[]⟩ w:=by
 have HK:=Lib.hid hK
 clear hK
 conv=>arg 2;whnf
 have hd8:=gr.d8
 have L1:=gr.l64
 have L2:=gr.d64
 have L3:=gr.c64
 have hx:=sectorB_len xz
 rw [hxe] at hx
 have CSe:=fun V=>sector_any xz V hxz
 rw [hxe] at CSe
 replace CSe:=Lib.hid CSe
 have hkd:KU W0 w.drew b H N KL [] [] I:=⟨hk.ks.below (Below.refl _ w).drew,fun p hp=>(hk.it p hp).below (Below.refl _ w).drew⟩
 have CD:=fun (V:World) (gx:Nat) (k':KU W0 V b H N KL [] [(some ⟨gx,0,none⟩,x)] I)=>ku_do k' hu ht lv (some ⟨gl,0,none⟩) D D hll.symm (k'.ks.lv (g:=gl) (t:=4) (f:=(0,0)) (lv:=lv) hGl rfl (by omega)) l (D:Int) c pn L1 L2 L3 hpn (some ⟨gx,0,none⟩) 32 32 x hx (Nat.le_refl _) (k'.ks.sl (A:=some ⟨gx,0,none⟩) (bs:=x) (by simp)) 2 (by omega) hX hps hdn
 rw [hdo] at CD
 replace CD:=Lib.hid CD
 clear hu ht hxz hpn hxe hdo hX hps hdn gr
 refine wp_region_noPanic (region_ord 8 [] (fun V=>GAt V gb l (D:Int) c) (by kernel_rfl) (by kernel_rfl) (fun _ _ _ _ _ h=>h) fun R=>?_)
 change anyI _ _ _ _ _ _ 8 _ _ w.drew
 have HS0:=Lib.hid (show (fun V=>GAt V gb l (D:Int) c) w.drew from (hk.ks.below (Below.refl _ w).drew).gat hG)
 refine' anyI_take R 0 rfl (v:=?_) (by kernel_rfl) (by rfl) (fun V hV=>?hy) HS0.out ?_
 case hy=>((try dsimp only at hV); obtain ⟨y0,y1,y2⟩:=hV;go_simp;try with_reducible rfl)
 try simp only [Act.put,List.getElem_toArray,List.getElem_cons_succ,List.getElem_cons_zero,List.setIfInBounds_toArray,List.set_cons_zero,List.set_cons_succ]
 refine' anyI_take R 1 rfl (v:=?_) (by kernel_rfl) (by rfl) (fun V hV=>?hy) HS0.out ?_
 case hy=>((try dsimp only at hV); obtain ⟨y0,y1,y2⟩:=hV;go_simp;try with_reducible rfl)
 try simp only [Act.put,List.getElem_toArray,List.getElem_cons_succ,List.getElem_cons_zero,List.setIfInBounds_toArray,List.set_cons_zero,List.set_cons_succ]
 refine' anyI_take R 2 rfl (v:=?_) (by kernel_rfl) (by rfl) (fun V hV=>?hy) HS0.out ?_
 case hy=>((try dsimp only at hV); obtain ⟨y0,y1,y2⟩:=hV;go_simp;try with_reducible rfl)
 try simp only [Act.put,List.getElem_toArray,List.getElem_cons_succ,List.getElem_cons_zero,List.setIfInBounds_toArray,List.set_cons_zero,List.set_cons_succ]
 refine' anyI_take R 3 rfl (v:=?_) (by kernel_rfl) (by rfl) (fun V hV=>?hy) HS0.out ?_
 case hy=>((try dsimp only at hV); obtain ⟨y0,y1,y2⟩:=hV;go_simp;try with_reducible rfl)
 try simp only [Act.put,List.getElem_toArray,List.getElem_cons_succ,List.getElem_cons_zero,List.setIfInBounds_toArray,List.set_cons_zero,List.set_cons_succ]
 refine' anyI_take R 4 rfl (v:=?_) (by kernel_rfl) (by rfl) (fun V hV=>?hy) HS0.out ?_
 case hy=>((try dsimp only at hV); obtain ⟨y0,y1,y2⟩:=hV;go_simp;try with_reducible rfl)
 try simp only [Act.put,List.getElem_toArray,List.getElem_cons_succ,List.getElem_cons_zero,List.setIfInBounds_toArray,List.set_cons_zero,List.set_cons_succ]
 refine anyI_one 5 (by kernel_rfl) rfl ?_
 try simp only [List.getElem_toArray,List.getElem_cons_succ,List.getElem_cons_zero]
 refine opE_step ?_
 rw [if_pos (by rfl)]
 go_simp
 go_at_call 14
 (with_reducible refine (CSe.out _).mono ?_)
 rintro e wx ⟨gx,rfl,hxo,hbx⟩
 have K1:=Lib.hid (show KU W0 wx b H N KL [] [(some ⟨gx,0,none⟩,x)] I from ⟨hkd.ks.slice hbx hxo.rdbf,fun p hp=>(hkd.it p hp).below hbx⟩)
 replace HS0:=Lib.hid (show (fun V=>GAt V gb l (D:Int) c) wx from K1.out.ks.gat hG)
 clear hbx hxo
 try dsimp only
 refine ⟨HS0.out,?_⟩
 try simp only [Act.put,List.getElem_toArray,List.getElem_cons_succ,List.getElem_cons_zero,List.setIfInBounds_toArray,List.set_cons_zero,List.set_cons_succ]
 refine anyI_one 6 (by kernel_rfl) rfl ?_
 try simp only [List.getElem_toArray,List.getElem_cons_succ,List.getElem_cons_zero]
 refine opE_step ?_
 rw [if_pos (by rfl)]
 go_simp
 go_at_call 15
 (with_reducible refine (CD.out _ gx K1.out).mono ?_)
 rintro e w9 ⟨rfl,H9,k9⟩
 have K9:=Lib.hid (k9.less (K':=KL) (R':=[]) (S':=[]) (I':=I) (fun _ h=>h) (fun _ h=>h) (fun _ h=>absurd h (by simp)) (fun _ h=>h))
 replace HS0:=Lib.hid (show (fun V=>GAt V gb l (D:Int) c) w9 from K9.out.ks.gat hG)
 clear k9
 try dsimp only
 refine ⟨HS0.out,?_⟩
 try simp only [Act.put,List.getElem_toArray,List.getElem_cons_succ,List.getElem_cons_zero,List.setIfInBounds_toArray,List.set_cons_zero,List.set_cons_succ]
 refine' anyI_take R 7 rfl (v:=?_) (by kernel_rfl) (by rfl) (fun V hV=>?hy) HS0.out ?_
 case hy=>((try dsimp only at hV); obtain ⟨y0,y1,y2⟩:=hV;go_simp;try with_reducible rfl)
 try simp only [Act.put,List.getElem_toArray,List.getElem_cons_succ,List.getElem_cons_zero,List.setIfInBounds_toArray,List.set_cons_zero,List.set_cons_succ]
 refine anyI_tail (by kernel_rfl) ?_
 try simp only [List.drop_succ_cons,List.drop_zero]
 clear R
 go_wp2_with fail
 refine NoPanic.normal ?_
 exact HK.out _ _ _ _ _ _ _ H9 w9 K9.out
set_option maxRecDepth 100000 in
set_option maxHeartbeats 3200000 in
theorem ucD {e0:Int} {dn:Bool} {w:World} (u0 u1 u2 u3 u4 u5 u6 u7 u8 u9 u10 u11 u12 u13 u14 u15 u16 u17 u18 u20 u22 u23 u24 u25 u26 u27 u28 u29 u30 u31 u32 u33 u34 u35 u36 u37 u38 u39 u40 u41 u42 u43 u44 u45 u46 u47 u48 u49 u50 u51 u52 u53 u54 u55 u56 u57 u58 u59 u60 u61 u62 u63 u64 u65 u66 u67 u68 u69 u70 u71 u72 u73 u74 u75 u76 u77 u78 u79 u80 u81 u82 u83 u84 u85 u86 u87 u88 u89 u90 u91 u92 u93 u94 u95 u96 u97 u98 u99 u100 u101 u102 u103 u104 u105 u106 u107 u108 u109 u110 u111 u112 u113 u114 u115 u116 u117 u118 u119 u120 u121 u122 u123 u124 u125 u126 u127 u128 u129 u130 u131 u132 u133 u134 u135 u136 u137 u138 u139 u140 u141 u142 u143 u144 u145 u146 u147 u148 u149 u150 u151 u152 u153 u154 u155 u156 u157 u158 u159 u160 u161 u162 u163 u164 u165 u166 u167 u168 u169 u170 u171 u172 u173 u174 u175 u176 u177 u178 u179 u180 u181 u182 u183 u184 u185 u186 u187 u188 u189 u190 u191 u192 u193 u194 u195 u196 u197 u198 u199 u200 u201 u202 u203 u204 u205 u206 u207 u208 u209 u210 u211 u212:Value) (K:Act→World→Prop) (Q0:Exit→Act→World→Prop) (he:(e0=6∧dn=true)∨(e0=0∧dn=false))
    (hK:∀ (v90 v91 v92 v93 v94 v95 v96 v97 v98 v99 v100:Value),K ⟨List.toArray (u0::u1::u2::u3::u4::u5::u6::u7::u8::u9::u10::u11::u12::u13::u14::u15::u16::u17::u18::(.int .i64 e0)::u20::(.bool dn)::u22::u23::u24::u25::u26::u27::u28::u29::u30::u31::u32::u33::u34::u35::u36::u37::u38::u39::u40::u41::u42::u43::u44::u45::u46::u47::u48::u49::u50::u51::u52::u53::u54::u55::u56::u57::u58::u59::u60::u61::u62::u63::u64::u65::u66::u67::u68::u69::u70::u71::u72::u73::u74::u75::u76::u77::u78::u79::u80::u81::u82::u83::u84::u85::u86::u87::u88::u89::v90::v91::v92::v93::v94::v95::v96::v97::v98::v99::v100::(.bool false)::u102::u103::u104::u105::u106::u107::u108::u109::u110::u111::u112::u113::u114::u115::u116::u117::u118::u119::u120::u121::u122::u123::u124::u125::u126::u127::u128::u129::u130::u131::u132::u133::u134::u135::u136::u137::u138::u139::u140::u141::u142::u143::u144::u145::u146::u147::u148::u149::u150::u151::u152::u153::u154::u155::u156::u157::u158::u159::u160::u161::u162::u163::u164::u165::u166::u167::u168::u169::u170::u171::u172::u173::u174::u175::u176::u177::u178::u179::u180::u181::u182::u183::u184::u185::u186::u187::u188::u189::u190::u191::u192::u193::u194::u195::u196::u197::u198::u199::u200::u201::u202::u203::u204::u205::u206::u207::u208::u209::u210::u211::u212::[]),[]⟩ w) :
    Code.wp Tryz.prog (sub [1,1,1,1,1,1,1,1,1,1,1,1,1,0,0] codeUC) (Exit.then K Q0) ⟨List.toArray (u0::u1::u2::u3::u4::u5::u6::u7::u8::u9::u10::u11::u12::u13::u14::u15::u16::u17::u18::(.int .i64 e0)::u20::(.bool dn)::u22::u23::u24::u25::u26::u27::u28::u29::u30::u31::u32::u33::u34::u35::u36::u37::u38::u39::u40::u41::u42::u43::u44::u45::u46::u47::u48::u49::u50::u51::u52::u53::u54::u55::u56::u57::u58::u59::u60::u61::u62::u63::u64::u65::u66::u67::u68::u69::u70::u71::u72::u73::u74::u75::u76::u77::u78::u79::u80::u81::u82::u83::u84::u85::u86::u87::u88::u89::u90::u91::u92::u93::u94::u95::u96::u97::u98::u99::u100::u101::u102::u103::u104::u105::u106::u107::u108::u109::u110::u111::u112::u113::u114::u115::u116::u117::u118::u119::u120::u121::u122::u123::u124::u125::u126::u127::u128::u129::u130::u131::u132::u133::u134::u135::u136::u137::u138::u139::u140::u141::u142::u143::u144::u145::u146::u147::u148::u149::u150::u151::u152::u153::u154::u155::u156::u157::u158::u159::u160::u161::u162::u163::u164::u165::u166::u167::u168::u169::u170::u171::u172::u173::u174::u175::u176::u177::u178::u179::u180::u181::u182::u183::u184::u185::u186::u187::u188::u189::u190::u191::u192::u193::u194::u195::u196::u197::u198::u199::u200::u201::u202::u203::u204::u205::u206::u207::u208::u209::u210::u211::u212::[]),[]⟩ w:=by
 have HK:=Lib.hid hK
 clear hK
 conv=>arg 2;whnf
 rcases he with ⟨rfl,rfl⟩ | ⟨rfl,rfl⟩
 ·go_wp2_with fail
  exact HK.out _ _ _ _ _ _ _ _ _ _ _
 ·go_wp2_with fail
  exact HK.out _ _ _ _ _ _ _ _ _ _ _
end Go.Proofs.YtenkkdnepmoihaaGreatDoor
end
section
set_option maxRecDepth 20000
set_option linter.unusedVariables false
set_option linter.unusedSimpArgs false
namespace Go.Proofs.YtenkkdnepmoihaaGreatDoor
open Go.RowKit
set_option maxRecDepth 100000 in
set_option maxHeartbeats 3200000 in
theorem ucR {W0:World} {l c s:Int} {f:Bool} {D b gb gl:Nat} {lv:List Bool} {li:List It} {H:BH} {N:Bch} {w:World} (u0 u1 u2 u3 u4 u5 u6 u7 u8 u9 u10 u11 u12 u13 u14 u15 u18 u19 u20 u21 u22 u23 u24 u25 u26 u27 u28 u29 u30 u31 u32 u33 u34 u35 u36 u37 u38 u39 u40 u41 u42 u43 u44 u45 u46 u47 u48 u49 u50 u51 u52 u53 u54 u55 u56 u57 u58 u59 u60 u61 u62 u63 u64 u65 u66 u67 u68 u69 u70 u71 u72 u73 u74 u75 u76 u77 u78 u79 u80 u81 u82 u83 u84 u85 u86 u87 u88 u89 u90 u91 u92 u93 u94 u95 u96 u97 u98 u99 u100 u101 u102 u103 u104 u105 u106 u107 u108 u109 u110 u111 u112 u113 u114 u115 u116 u117 u118 u119 u120 u121 u122 u123 u124 u125 u126 u127 u128 u129 u130 u131 u132 u133 u134 u135 u136 u137 u138 u139 u140 u141 u142 u143 u144 u145 u146 u147 u148 u149 u150 u151 u152 u153 u154 u155 u156 u157 u158 u159 u160 u161 u162 u163 u164 u165 u166 u167 u168 u169 u170 u171 u172 u173 u174 u175 u176 u177 u178 u179 u180 u181 u182 u183 u184 u185 u186 u187 u188 u189 u190 u191 u192 u193 u194 u195 u196 u197 u198 u199 u200 u201 u202 u203 u204 u205 u206 u207 u208 u209 u210 u211 u212:Value) (K:Act→World→Prop) (Q0:Exit→Act→World→Prop) (ht:TabOk W0) (hk:KS W0 w b H N [(gl,Obj.cells (lv.map Value.bool).toArray 4 (0,0)),(gb,Obj.cells #[.int .i64 l,.int .i64 (D:Int),.int .i64 c] 24 (0,0))] [] []) (hll:lv.length=D) (hd8:D ≤ 8) (hget:getS N lv=(s,li)) (hf:decide (0 < s)=f)
    (hK:∀ (v125 v126 v127 v128 v129 v130:Value) (p8:Nat) (Ai:Option Addr) (ci:Nat) (V:World),KU W0 V b H N ((p8,Obj.cells #[.int .i64 s,.slice Ai li.length ci] 43 (0,0))::[(gl,Obj.cells (lv.map Value.bool).toArray 4 (0,0)),(gb,Obj.cells #[.int .i64 l,.int .i64 (D:Int),.int .i64 c] 24 (0,0))]) [] [] [(Ai,li)]→li.length ≤ ci→K ⟨List.toArray (u0::u1::u2::u3::u4::u5::u6::u7::u8::u9::u10::u11::u12::u13::u14::u15::(.pointer (some ⟨b,0,none⟩))::(.slice (some ⟨gl,0,none⟩) D D)::u18::u19::u20::u21::u22::(.pointer (some ⟨p8,0,none⟩))::(.bool f)::u25::u26::u27::u28::u29::u30::u31::u32::u33::u34::u35::u36::u37::u38::u39::u40::u41::u42::u43::u44::u45::u46::u47::u48::u49::u50::u51::u52::u53::u54::u55::u56::u57::u58::u59::u60::u61::u62::u63::u64::u65::u66::u67::u68::u69::u70::u71::u72::u73::u74::u75::u76::u77::u78::u79::u80::u81::u82::u83::u84::u85::u86::u87::u88::u89::u90::u91::u92::u93::u94::u95::u96::u97::u98::u99::u100::u101::u102::u103::u104::u105::u106::u107::u108::u109::u110::u111::u112::u113::u114::u115::u116::u117::u118::u119::u120::u121::u122::u123::u124::v125::v126::v127::v128::v129::v130::u131::u132::u133::u134::u135::u136::u137::u138::u139::u140::u141::u142::u143::u144::u145::u146::u147::u148::u149::u150::u151::u152::u153::u154::u155::u156::u157::u158::u159::u160::u161::u162::u163::u164::u165::u166::u167::u168::u169::u170::u171::u172::u173::u174::u175::u176::u177::u178::u179::u180::u181::u182::u183::u184::u185::u186::u187::u188::u189::u190::u191::u192::u193::u194::u195::u196::u197::u198::u199::u200::u201::u202::u203::u204::u205::u206::u207::u208::u209::u210::u211::u212::[]),[]⟩ V) :
    Code.wp Tryz.prog (sub [1,1,1,1,1,1,1,1,1,1,1,1,1,1,1,1,1,0,0] codeUC) (Exit.then K Q0) ⟨List.toArray (u0::u1::u2::u3::u4::u5::u6::u7::u8::u9::u10::u11::u12::u13::u14::u15::(.pointer (some ⟨b,0,none⟩))::(.slice (some ⟨gl,0,none⟩) D D)::u18::u19::u20::u21::u22::u23::u24::u25::u26::u27::u28::u29::u30::u31::u32::u33::u34::u35::u36::u37::u38::u39::u40::u41::u42::u43::u44::u45::u46::u47::u48::u49::u50::u51::u52::u53::u54::u55::u56::u57::u58::u59::u60::u61::u62::u63::u64::u65::u66::u67::u68::u69::u70::u71::u72::u73::u74::u75::u76::u77::u78::u79::u80::u81::u82::u83::u84::u85::u86::u87::u88::u89::u90::u91::u92::u93::u94::u95::u96::u97::u98::u99::u100::u101::u102::u103::u104::u105::u106::u107::u108::u109::u110::u111::u112::u113::u114::u115::u116::u117::u118::u119::u120::u121::u122::u123::u124::u125::u126::u127::u128::u129::u130::u131::u132::u133::u134::u135::u136::u137::u138::u139::u140::u141::u142::u143::u144::u145::u146::u147::u148::u149::u150::u151::u152::u153::u154::u155::u156::u157::u158::u159::u160::u161::u162::u163::u164::u165::u166::u167::u168::u169::u170::u171::u172::u173::u174::u175::u176::u177::u178::u179::u180::u181::u182::u183::u184::u185::u186::u187::u188::u189::u190::u191::u192::u193::u194::u195::u196::u197::u198::u199::u200::u201::u202::u203::u204::u205::u206::u207::u208::u209::u210::u211::u212::[]),[]⟩ w:=by
 have HK:=Lib.hid hK
 clear hK
 conv=>arg 2;whnf
 have CG:=(ku_get hk.ku ht lv (some ⟨gl,0,none⟩) D D hll.symm (hk.lv (g:=gl) (t:=4) (f:=(0,0)) (lv:=lv) (by simp) rfl (by omega)) s li hget)
 rw [hf] at CG
 replace CG:=Lib.hid CG
 clear ht hget hk hf
 go_wp2_with fail
 (with_reducible refine CG.out.mono ?_);rintro e w1 ⟨Ai,ci,rfl,hci,ku,hb⟩
 have Kf:=Lib.hid (show KU W0 (w1.alloc (.cells #[.int .i64 s,.slice Ai li.length ci] 43)) b H N ((w1.heap.size,Obj.cells #[.int .i64 s,.slice Ai li.length ci] 43 (0,0))::[(gl,Obj.cells (lv.map Value.bool).toArray 4 (0,0)),(gb,Obj.cells #[.int .i64 l,.int .i64 (D:Int),.int .i64 c] 24 (0,0))]) [] [] [(Ai,li)] from ⟨ku.ks.add _,fun p hp=>(ku.it p hp).below (below1 w1 _)⟩)
 clear ku hb CG
 go_wp2_with fail
 exact HK.out _ _ _ _ _ _ _ Ai ci _ Kf.out hci
set_option maxRecDepth 100000 in
set_option maxHeartbeats 3200000 in
theorem ucF0  {w:World} (u0 u1 u2 u3 u4 u5 u6 u7 u8 u9 u10 u11 u12 u13 u14 u15 u16 u17 u18 u19 u20 u21 u22 u23 u25 u26 u27 u28 u29 u30 u31 u32 u33 u34 u35 u36 u37 u38 u39 u40 u41 u42 u43 u44 u45 u46 u47 u48 u49 u50 u51 u52 u53 u54 u55 u56 u57 u58 u59 u60 u61 u62 u63 u64 u65 u66 u67 u68 u69 u70 u71 u72 u73 u74 u75 u76 u77 u78 u79 u80 u81 u82 u83 u84 u85 u86 u87 u88 u89 u90 u91 u92 u93 u94 u95 u96 u97 u98 u99 u100 u101 u102 u103 u104 u105 u106 u107 u108 u109 u110 u111 u112 u113 u114 u115 u116 u117 u118 u119 u120 u121 u122 u123 u124 u125 u126 u127 u128 u129 u130 u131 u132 u133 u134 u135 u136 u137 u138 u139 u140 u141 u142 u143 u144 u145 u146 u147 u148 u149 u150 u151 u152 u153 u154 u155 u156 u157 u158 u159 u160 u161 u162 u163 u164 u165 u166 u167 u168 u169 u170 u171 u172 u173 u174 u175 u176 u177 u178 u179 u180 u181 u182 u183 u184 u185 u186 u187 u188 u189 u190 u191 u192 u193 u194 u195 u196 u197 u198 u199 u200 u201 u202 u203 u204 u205 u206 u207 u208 u209 u210 u211 u212:Value) (K:Act→World→Prop) (Q0:Exit→Act→World→Prop)
    (hK:∀ (v14 v131 v132 v133 v134 v135 v136 v137 v138 v139 v140 v141 v142 v143:Value),K ⟨List.toArray (u0::u1::u2::u3::u4::u5::u6::u7::u8::u9::u10::u11::u12::u13::v14::u15::u16::u17::u18::u19::u20::u21::u22::u23::(.bool false)::u25::u26::u27::u28::u29::u30::u31::u32::u33::u34::u35::u36::u37::u38::u39::u40::u41::u42::u43::u44::u45::u46::u47::u48::u49::u50::u51::u52::u53::u54::u55::u56::u57::u58::u59::u60::u61::u62::u63::u64::u65::u66::u67::u68::u69::u70::u71::u72::u73::u74::u75::u76::u77::u78::u79::u80::u81::u82::u83::u84::u85::u86::u87::u88::u89::u90::u91::u92::u93::u94::u95::u96::u97::u98::u99::u100::u101::u102::u103::u104::u105::u106::u107::u108::u109::u110::u111::u112::u113::u114::u115::u116::u117::u118::u119::u120::u121::u122::u123::u124::u125::u126::u127::u128::u129::u130::v131::v132::v133::v134::v135::v136::v137::v138::v139::v140::v141::v142::v143::u144::u145::u146::u147::u148::u149::u150::u151::u152::u153::u154::u155::u156::u157::u158::u159::u160::u161::u162::u163::u164::u165::u166::u167::u168::u169::u170::u171::u172::u173::u174::u175::u176::u177::u178::u179::u180::u181::u182::u183::u184::u185::u186::u187::u188::u189::u190::u191::u192::u193::u194::u195::u196::u197::u198::u199::u200::u201::u202::u203::u204::u205::u206::u207::u208::u209::u210::u211::u212::[]),[]⟩ w) :
    Code.wp Tryz.prog (sub [1,1,1,1,1,1,1,1,1,1,1,1,1,1,1,1,1,0,1] codeUC) (Exit.then K Q0) ⟨List.toArray (u0::u1::u2::u3::u4::u5::u6::u7::u8::u9::u10::u11::u12::u13::u14::u15::u16::u17::u18::u19::u20::u21::u22::u23::(.bool false)::u25::u26::u27::u28::u29::u30::u31::u32::u33::u34::u35::u36::u37::u38::u39::u40::u41::u42::u43::u44::u45::u46::u47::u48::u49::u50::u51::u52::u53::u54::u55::u56::u57::u58::u59::u60::u61::u62::u63::u64::u65::u66::u67::u68::u69::u70::u71::u72::u73::u74::u75::u76::u77::u78::u79::u80::u81::u82::u83::u84::u85::u86::u87::u88::u89::u90::u91::u92::u93::u94::u95::u96::u97::u98::u99::u100::u101::u102::u103::u104::u105::u106::u107::u108::u109::u110::u111::u112::u113::u114::u115::u116::u117::u118::u119::u120::u121::u122::u123::u124::u125::u126::u127::u128::u129::u130::u131::u132::u133::u134::u135::u136::u137::u138::u139::u140::u141::u142::u143::u144::u145::u146::u147::u148::u149::u150::u151::u152::u153::u154::u155::u156::u157::u158::u159::u160::u161::u162::u163::u164::u165::u166::u167::u168::u169::u170::u171::u172::u173::u174::u175::u176::u177::u178::u179::u180::u181::u182::u183::u184::u185::u186::u187::u188::u189::u190::u191::u192::u193::u194::u195::u196::u197::u198::u199::u200::u201::u202::u203::u204::u205::u206::u207::u208::u209::u210::u211::u212::[]),[]⟩ w:=by
 have HK:=Lib.hid hK
 clear hK
 conv=>arg 2;whnf
 go_wp2_with fail
 exact HK.out _ _ _ _ _ _ _ _ _ _ _ _ _ _
set_option maxRecDepth 100000 in
set_option maxHeartbeats 3200000 in
theorem ucF1 {W0:World} {nn l c r s:Int} {D F W b gb gl p8 ci:Nat} {lv:List Bool} {Ai:Option Addr} {li:List It} {ds:Nat→List (List UInt8)} {H:BH} {N:Bch} {w:World} (u0 u1 u2 u3 u4 u5 u6 u7 u8 u9 u10 u11 u12 u13 u14 u15 u18 u19 u20 u21 u22 u25 u26 u27 u28 u29 u30 u31 u32 u33 u34 u35 u36 u37 u38 u39 u40 u41 u42 u43 u44 u45 u46 u47 u48 u49 u50 u51 u52 u53 u54 u55 u56 u57 u58 u59 u60 u61 u62 u63 u64 u65 u66 u67 u68 u69 u70 u71 u72 u73 u74 u75 u76 u77 u78 u79 u80 u81 u82 u83 u84 u85 u86 u87 u88 u89 u90 u91 u92 u93 u94 u95 u96 u97 u98 u99 u100 u101 u102 u103 u104 u105 u106 u107 u108 u109 u110 u111 u112 u113 u114 u115 u116 u117 u118 u119 u120 u121 u122 u123 u124 u125 u126 u127 u128 u129 u130 u131 u132 u133 u134 u135 u136 u137 u138 u139 u140 u141 u142 u143 u144 u145 u146 u147 u148 u149 u150 u151 u152 u153 u154 u155 u156 u157 u158 u159 u160 u161 u162 u163 u164 u165 u166 u167 u168 u169 u170 u171 u172 u173 u174 u175 u176 u177 u178 u179 u180 u181 u182 u183 u184 u185 u186 u187 u188 u189 u190 u191 u192 u193 u194 u195 u196 u197 u198 u199 u200 u201 u202 u203 u204 u205 u206 u207 u208 u209 u210 u211 u212:Value) (K:Act→World→Prop) (Q0:Exit→Act→World→Prop) (ht:TabOk W0) (gr:Gr nn l c r D F W) (hk:KU W0 w b H N ((p8,Obj.cells #[.int .i64 s,.slice Ai li.length ci] 43 (0,0))::[(gl,Obj.cells (lv.map Value.bool).toArray 4 (0,0)),(gb,Obj.cells #[.int .i64 l,.int .i64 (D:Int),.int .i64 c] 24 (0,0))]) [] [] [(Ai,li)]) (hci:li.length ≤ ci) (hll:lv.length=D) (hN:N.n=D) (hg:GoodB N) (hdn:N.done ≤ 800000) (hf:Fnd N D lv l c W s li ds)
    (hK:∀ (v14 v131 v132 v133 v134 v135 v136 v137 v138 v139 v140 v141 v142 v143:Value) (H2:BH) (V:World),KS W0 V b H2 (appS (putS N lv s li).2 lv s li).2 [(gl,Obj.cells (lv.map Value.bool).toArray 4 (0,0)),(gb,Obj.cells #[.int .i64 l,.int .i64 (D:Int),.int .i64 c] 24 (0,0))] [] []→K ⟨List.toArray (u0::u1::u2::u3::u4::u5::u6::u7::u8::u9::u10::u11::u12::u13::v14::u15::(.pointer (some ⟨b,0,none⟩))::(.slice (some ⟨gl,0,none⟩) D D)::u18::u19::u20::u21::u22::(.pointer (some ⟨p8,0,none⟩))::(.bool true)::u25::u26::u27::u28::u29::u30::u31::u32::u33::u34::u35::u36::u37::u38::u39::u40::u41::u42::u43::u44::u45::u46::u47::u48::u49::u50::u51::u52::u53::u54::u55::u56::u57::u58::u59::u60::u61::u62::u63::u64::u65::u66::u67::u68::u69::u70::u71::u72::u73::u74::u75::u76::u77::u78::u79::u80::u81::u82::u83::u84::u85::u86::u87::u88::u89::u90::u91::u92::u93::u94::u95::u96::u97::u98::u99::u100::u101::u102::u103::u104::u105::u106::u107::u108::u109::u110::u111::u112::u113::u114::u115::u116::u117::u118::u119::u120::u121::u122::u123::u124::u125::u126::u127::u128::u129::u130::v131::v132::v133::v134::v135::v136::v137::v138::v139::v140::v141::v142::v143::u144::u145::u146::u147::u148::u149::u150::u151::u152::u153::u154::u155::u156::u157::u158::u159::u160::u161::u162::u163::u164::u165::u166::u167::u168::u169::u170::u171::u172::u173::u174::u175::u176::u177::u178::u179::u180::u181::u182::u183::u184::u185::u186::u187::u188::u189::u190::u191::u192::u193::u194::u195::u196::u197::u198::u199::u200::u201::u202::u203::u204::u205::u206::u207::u208::u209::u210::u211::u212::[]),[]⟩ V) :
    Code.wp Tryz.prog (sub [1,1,1,1,1,1,1,1,1,1,1,1,1,1,1,1,1,0,1] codeUC) (Exit.then K Q0) ⟨List.toArray (u0::u1::u2::u3::u4::u5::u6::u7::u8::u9::u10::u11::u12::u13::u14::u15::(.pointer (some ⟨b,0,none⟩))::(.slice (some ⟨gl,0,none⟩) D D)::u18::u19::u20::u21::u22::(.pointer (some ⟨p8,0,none⟩))::(.bool true)::u25::u26::u27::u28::u29::u30::u31::u32::u33::u34::u35::u36::u37::u38::u39::u40::u41::u42::u43::u44::u45::u46::u47::u48::u49::u50::u51::u52::u53::u54::u55::u56::u57::u58::u59::u60::u61::u62::u63::u64::u65::u66::u67::u68::u69::u70::u71::u72::u73::u74::u75::u76::u77::u78::u79::u80::u81::u82::u83::u84::u85::u86::u87::u88::u89::u90::u91::u92::u93::u94::u95::u96::u97::u98::u99::u100::u101::u102::u103::u104::u105::u106::u107::u108::u109::u110::u111::u112::u113::u114::u115::u116::u117::u118::u119::u120::u121::u122::u123::u124::u125::u126::u127::u128::u129::u130::u131::u132::u133::u134::u135::u136::u137::u138::u139::u140::u141::u142::u143::u144::u145::u146::u147::u148::u149::u150::u151::u152::u153::u154::u155::u156::u157::u158::u159::u160::u161::u162::u163::u164::u165::u166::u167::u168::u169::u170::u171::u172::u173::u174::u175::u176::u177::u178::u179::u180::u181::u182::u183::u184::u185::u186::u187::u188::u189::u190::u191::u192::u193::u194::u195::u196::u197::u198::u199::u200::u201::u202::u203::u204::u205::u206::u207::u208::u209::u210::u211::u212::[]),[]⟩ w:=by
 have HK:=Lib.hid hK
 clear hK
 conv=>arg 2;whnf
 have hd8:=gr.d8
 have hz:=hk.ks.kx.kp (p8,Obj.cells #[.int .i64 s,.slice Ai li.length ci] 43 (0,0)) (List.mem_cons_self ..)
 have c0:=cell_of_row w p8 0 _ _ _ hz.1
 have c1:=cell_of_row w p8 1 _ _ _ hz.1
 have hs64:=hf.s64
 have CPu:=Lib.hid (ku_put hk ht lv (some ⟨gl,0,none⟩) D D hll.symm (hk.ks.lv (g:=gl) (t:=4) (f:=(0,0)) (lv:=lv) (by simp) rfl (by omega)) s li Ai li.length ci rfl hci (by simp) hf.i64 (by omega) (fun i hi=>by rw [hg.ps i hi];exact Nat.zero_le _) (by omega))
 have CAp:=Lib.hid (fun (V:World) (H':BH) (k':KU W0 V b H' (putS N lv s li).2 ((p8,Obj.cells #[.int .i64 s,.slice Ai li.length ci] 43 (0,0))::[(gl,Obj.cells (lv.map Value.bool).toArray 4 (0,0)),(gb,Obj.cells #[.int .i64 l,.int .i64 (D:Int),.int .i64 c] 24 (0,0))]) [] [] [(Ai,li)])=>ku_app k' lv (some ⟨gl,0,none⟩) D D hll.symm (k'.ks.lv (g:=gl) (t:=4) (f:=(0,0)) (lv:=lv) (by simp) rfl (by omega)) s li Ai li.length ci rfl hci (by simp) hf.i64 (by omega) (fun i hi=>by have h1:=(put_len N lv s li (by rw [hN];exact hd8)).1 i;rw [hg.ps i (by rw [put_n] at hi;exact hi)] at h1;simp at h1;omega) (by have:=hf.done;omega))
 rw [hf.p0] at CPu
 rw [hf.a0] at CAp
 clear ht hf hg hN gr hz hk
 go_wp2_with (first
  |(go_at_call 30
    (with_reducible refine CPu.out.mono ?_)
    rintro e w1 ⟨rfl,H1,k1⟩
    have K1:=Lib.hid k1
    have hz1:=k1.ks.kx.kp (p8,Obj.cells #[.int .i64 s,.slice Ai li.length ci] 43 (0,0)) (List.mem_cons_self ..)
    have d0:=cell_of_row w1 p8 0 _ _ _ hz1.1
    have d1:=cell_of_row w1 p8 1 _ _ _ hz1.1
    clear k1 hz1)
  |(go_at_call 31
    (with_reducible refine (CAp.out _ _ K1.out).mono ?_)
    rintro e w2 ⟨rfl,H2,k2⟩
    have K2:=Lib.hid (k2.ks.less (K':=[(gl,Obj.cells (lv.map Value.bool).toArray 4 (0,0)),(gb,Obj.cells #[.int .i64 l,.int .i64 (D:Int),.int .i64 c] 24 (0,0))]) (R':=[]) (S':=[]) (fun p hp=>List.mem_cons_of_mem _ hp) (fun _ h=>h) (fun _ h=>h))
    clear k2))
 exact HK.out _ _ _ _ _ _ _ _ _ _ _ _ _ _ H2 w2 K2.out
set_option maxRecDepth 100000 in
set_option maxHeartbeats 3200000 in
theorem ucG {pn xz m:Int} {b1 o1 c1 b2 o2 c2 k W cy cw:Nat} {Ay Aw:Option Addr} {x y wv:List UInt8} {dn:Bool} {w:World} (u0 u1 u4 u5 u6 u7 u8 u9 u10 u11 u12 u13 u14 u15 u16 u17 u18 u19 u20 u22 u23 u24 u25 u27 u31 u32 u33 u34 u35 u36 u37 u38 u39 u40 u41 u42 u43 u44 u45 u46 u47 u48 u49 u50 u51 u52 u53 u54 u55 u56 u57 u58 u59 u60 u61 u62 u63 u64 u65 u66 u67 u68 u69 u70 u71 u72 u73 u74 u75 u76 u77 u78 u79 u80 u81 u82 u83 u84 u85 u86 u87 u88 u89 u90 u91 u92 u93 u94 u95 u96 u97 u98 u99 u100 u101 u102 u103 u104 u105 u106 u107 u108 u109 u110 u111 u112 u113 u114 u115 u116 u117 u118 u119 u120 u121 u122 u123 u124 u125 u126 u127 u128 u129 u130 u131 u132 u133 u134 u135 u136 u137 u138 u139 u140 u141 u142 u143 u144 u145 u146 u147 u148 u149 u150 u151 u152 u153 u154 u155 u156 u157 u158 u159 u160 u161 u162 u163 u164 u165 u166 u167 u168 u169 u170 u171 u172 u173 u174 u175 u176 u177 u178 u179 u180 u181 u182 u183 u184 u185 u186 u187 u188 u189 u190 u191 u192 u193 u194 u195 u196 u197 u198 u199 u200 u201 u202 u203 u204 u205 u206 u207 u208 u209 u210 u211 u212:Value) (K:Act→World→Prop) (Q0:Exit→Act→World→Prop) (hk:k < W) (hW:W ≤ 8) (hxz:(-9223372036854775808 ≤ xz∧xz ≤ 9223372036854775807)) (hxe:sectorB xz=x) (z1:w.cell? ⟨b1,o1 + k,none⟩=some (.slice Ay 32 cy)) (z2:w.cell? ⟨b2,o2 + k,none⟩=some (.slice Aw 32 cw)) (r1:RdB w w.heap.size Ay y) (r2:RdB w w.heap.size Aw wv) (hy:y.length=32) (hwv:wv.length=32) (hc:(m ≠ pn∧y=wv)∨(m=pn∧y=x)∨(m=pn∧y=wv∧dn=true))
    (hK:∀ (v178 v179 v180 v181 v182 v183 v184 v185 v186 v187 v188 v189 v190 v191 v192 v193 v194 v195 v196 v197 v198 v199 v200 v201 v202 v203 v204 v205 v206 v207 v208 v209:Value) (V:World),Below w.heap.size w V→K ⟨List.toArray (u0::u1::(.int .i64 pn)::(.int .i64 xz)::u4::u5::u6::u7::u8::u9::u10::u11::u12::u13::u14::u15::u16::u17::u18::u19::u20::(.bool dn)::u22::u23::u24::u25::(.slice (some ⟨b1,o1,none⟩) W c1)::u27::(.slice (some ⟨b2,o2,none⟩) W c2)::(.int .i64 ((k:Nat):Int))::(.int .i64 m)::u31::u32::u33::u34::u35::u36::u37::u38::u39::u40::u41::u42::u43::u44::u45::u46::u47::u48::u49::u50::u51::u52::u53::u54::u55::u56::u57::u58::u59::u60::u61::u62::u63::u64::u65::u66::u67::u68::u69::u70::u71::u72::u73::u74::u75::u76::u77::u78::u79::u80::u81::u82::u83::u84::u85::u86::u87::u88::u89::u90::u91::u92::u93::u94::u95::u96::u97::u98::u99::u100::u101::u102::u103::u104::u105::u106::u107::u108::u109::u110::u111::u112::u113::u114::u115::u116::u117::u118::u119::u120::u121::u122::u123::u124::u125::u126::u127::u128::u129::u130::u131::u132::u133::u134::u135::u136::u137::u138::u139::u140::u141::u142::u143::u144::u145::u146::u147::u148::u149::u150::u151::u152::u153::u154::u155::u156::u157::u158::u159::u160::u161::u162::u163::u164::u165::u166::u167::u168::u169::u170::u171::u172::u173::u174::u175::u176::u177::v178::v179::v180::v181::v182::v183::v184::v185::v186::v187::v188::v189::v190::v191::v192::v193::v194::v195::v196::v197::v198::v199::v200::v201::v202::v203::v204::v205::v206::v207::v208::v209::(.bool true)::u211::u212::[]),[]⟩ V) :
    Code.wp Tryz.prog (sub [1,1,1,1,1,1,1,1,1,1,1,1,1,1,1,1,1,1,0,1,0,0,1,0,0,1,1,1,1,0,0,1,1,0,0,1,0,0] codeUC) (Exit.then K Q0) ⟨List.toArray (u0::u1::(.int .i64 pn)::(.int .i64 xz)::u4::u5::u6::u7::u8::u9::u10::u11::u12::u13::u14::u15::u16::u17::u18::u19::u20::(.bool dn)::u22::u23::u24::u25::(.slice (some ⟨b1,o1,none⟩) W c1)::u27::(.slice (some ⟨b2,o2,none⟩) W c2)::(.int .i64 ((k:Nat):Int))::(.int .i64 m)::u31::u32::u33::u34::u35::u36::u37::u38::u39::u40::u41::u42::u43::u44::u45::u46::u47::u48::u49::u50::u51::u52::u53::u54::u55::u56::u57::u58::u59::u60::u61::u62::u63::u64::u65::u66::u67::u68::u69::u70::u71::u72::u73::u74::u75::u76::u77::u78::u79::u80::u81::u82::u83::u84::u85::u86::u87::u88::u89::u90::u91::u92::u93::u94::u95::u96::u97::u98::u99::u100::u101::u102::u103::u104::u105::u106::u107::u108::u109::u110::u111::u112::u113::u114::u115::u116::u117::u118::u119::u120::u121::u122::u123::u124::u125::u126::u127::u128::u129::u130::u131::u132::u133::u134::u135::u136::u137::u138::u139::u140::u141::u142::u143::u144::u145::u146::u147::u148::u149::u150::u151::u152::u153::u154::u155::u156::u157::u158::u159::u160::u161::u162::u163::u164::u165::u166::u167::u168::u169::u170::u171::u172::u173::u174::u175::u176::u177::u178::u179::u180::u181::u182::u183::u184::u185::u186::u187::u188::u189::u190::u191::u192::u193::u194::u195::u196::u197::u198::u199::u200::u201::u202::u203::u204::u205::u206::u207::u208::u209::u210::u211::u212::[]),[]⟩ w:=by
 have HK:=Lib.hid hK
 clear hK
 conv=>arg 2;whnf
 have hx:=sectorB_len xz
 rw [hxe] at hx
 have CSe:=fun V=>sector_any xz V hxz
 rw [hxe] at CSe
 replace CSe:=Lib.hid CSe
 have hl1:=World.block_lt_of_cell? _ _ z1
 have hl2:=World.block_lt_of_cell? _ _ z2
 have k0:(0:Int) ≤ (k:Int):=by omega
 have k1:(k:Int) < (W:Int):=by omega
 clear hxe hxz
 by_cases hmp:m=pn
 ·have em:(m == pn)=true:=by rw [hmp];exact beq_self_eq_true _
  by_cases hyx:y=x
  ·clear hc hmp
   refine wp_region_noPanic (region_ord 33 [] (fun V=>V.cell? ⟨b1,o1 + k,none⟩=some (.slice Ay 32 cy)∧V.cell? ⟨b2,o2 + k,none⟩=some (.slice Aw 32 cw)∧Below w.heap.size w V) (by kernel_rfl) (by kernel_rfl) (fun _ _ _ _ _ h=>h) fun R=>?_)
   change anyI _ _ _ _ _ _ 33 _ _ w.drew
   have HS0:=Lib.hid (show (fun V=>V.cell? ⟨b1,o1 + k,none⟩=some (.slice Ay 32 cy)∧V.cell? ⟨b2,o2 + k,none⟩=some (.slice Aw 32 cw)∧Below w.heap.size w V) w.drew from ⟨z1,z2,(Below.refl _ w).drew⟩)
   refine' anyI_take R 0 rfl (v:=?_) (by kernel_rfl) (by rfl) (fun V hV=>?hy) HS0.out ?_
   case hy=>((try dsimp only at hV); obtain ⟨y1,y2,_⟩:=hV;go_simp;try with_reducible rfl)
   try simp only [Act.put,List.getElem_toArray,List.getElem_cons_succ,List.getElem_cons_zero,List.setIfInBounds_toArray,List.set_cons_zero,List.set_cons_succ]
   refine' anyI_take R 1 rfl (v:=?_) (by kernel_rfl) (by rfl) (fun V hV=>?hy) HS0.out ?_
   case hy=>((try dsimp only at hV); obtain ⟨y1,y2,_⟩:=hV;go_simp;try with_reducible rfl)
   try simp only [Act.put,List.getElem_toArray,List.getElem_cons_succ,List.getElem_cons_zero,List.setIfInBounds_toArray,List.set_cons_zero,List.set_cons_succ]
   refine' anyI_take R 2 rfl (v:=?_) (by kernel_rfl) (by rfl) (fun V hV=>?hy) HS0.out ?_
   case hy=>((try dsimp only at hV); obtain ⟨y1,y2,_⟩:=hV;go_simp;try with_reducible rfl)
   try simp only [Act.put,List.getElem_toArray,List.getElem_cons_succ,List.getElem_cons_zero,List.setIfInBounds_toArray,List.set_cons_zero,List.set_cons_succ]
   refine' anyI_take R 3 rfl (v:=?_) (by kernel_rfl) (by rfl) (fun V hV=>?hy) HS0.out ?_
   case hy=>((try dsimp only at hV); obtain ⟨y1,y2,_⟩:=hV;go_simp;try with_reducible rfl)
   try simp only [Act.put,List.getElem_toArray,List.getElem_cons_succ,List.getElem_cons_zero,List.setIfInBounds_toArray,List.set_cons_zero,List.set_cons_succ]
   refine' anyI_take R 4 rfl (v:=?_) (by kernel_rfl) (by rfl) (fun V hV=>?hy) HS0.out ?_
   case hy=>((try dsimp only at hV); obtain ⟨y1,y2,_⟩:=hV;go_simp;try with_reducible rfl)
   try simp only [Act.put,List.getElem_toArray,List.getElem_cons_succ,List.getElem_cons_zero,List.setIfInBounds_toArray,List.set_cons_zero,List.set_cons_succ]
   refine' anyI_take R 5 rfl (v:=?_) (by kernel_rfl) (by rfl) (fun V hV=>?hy) HS0.out ?_
   case hy=>((try dsimp only at hV); obtain ⟨y1,y2,_⟩:=hV;go_simp;try with_reducible rfl)
   try simp only [Act.put,List.getElem_toArray,List.getElem_cons_succ,List.getElem_cons_zero,List.setIfInBounds_toArray,List.set_cons_zero,List.set_cons_succ]
   refine' anyI_take R 6 rfl (v:=?_) (by kernel_rfl) (by rfl) (fun V hV=>?hy) HS0.out ?_
   case hy=>((try dsimp only at hV); obtain ⟨y1,y2,_⟩:=hV;go_simp;try with_reducible rfl)
   try simp only [Act.put,List.getElem_toArray,List.getElem_cons_succ,List.getElem_cons_zero,List.setIfInBounds_toArray,List.set_cons_zero,List.set_cons_succ]
   refine' anyI_take R 7 rfl (v:=?_) (by kernel_rfl) (by rfl) (fun V hV=>?hy) HS0.out ?_
   case hy=>((try dsimp only at hV); obtain ⟨y1,y2,_⟩:=hV;go_simp;try with_reducible rfl)
   try simp only [Act.put,List.getElem_toArray,List.getElem_cons_succ,List.getElem_cons_zero,List.setIfInBounds_toArray,List.set_cons_zero,List.set_cons_succ]
   refine' anyI_take R 8 rfl (v:=?_) (by kernel_rfl) (by rfl) (fun V hV=>?hy) HS0.out ?_
   case hy=>((try dsimp only at hV); obtain ⟨y1,y2,_⟩:=hV;go_simp;try with_reducible rfl)
   try simp only [Act.put,List.getElem_toArray,List.getElem_cons_succ,List.getElem_cons_zero,List.setIfInBounds_toArray,List.set_cons_zero,List.set_cons_succ]
   refine anyI_one 9 (by kernel_rfl) rfl ?_
   try simp only [List.getElem_toArray,List.getElem_cons_succ,List.getElem_cons_zero]
   refine opE_step ?_
   rw [if_pos (by rfl)]
   go_simp
   go_at_call 14
   (with_reducible refine (CSe.out _).mono ?_)
   rintro e wx ⟨gx,rfl,hxo,hbx⟩
   have B1:=Lib.hid (show Below w.heap.size w wx from (Below.refl _ w).drew.trans (hbx.mono (Nat.le_refl _)))
   have Rx:=Lib.hid hxo.rdS.1
   replace HS0:=Lib.hid (show (fun V=>V.cell? ⟨b1,o1 + k,none⟩=some (.slice Ay 32 cy)∧V.cell? ⟨b2,o2 + k,none⟩=some (.slice Aw 32 cw)∧Below w.heap.size w V) wx from ⟨(B1.out.cell (p:=⟨b1,o1 + k,none⟩) hl1).trans z1,(B1.out.cell (p:=⟨b2,o2 + k,none⟩) hl2).trans z2,B1.out⟩)
   clear hxo hbx
   try dsimp only
   refine ⟨HS0.out,?_⟩
   try simp only [Act.put,List.getElem_toArray,List.getElem_cons_succ,List.getElem_cons_zero,List.setIfInBounds_toArray,List.set_cons_zero,List.set_cons_succ]
   refine anyI_one 10 (by kernel_rfl) rfl ?_
   try simp only [List.getElem_toArray,List.getElem_cons_succ,List.getElem_cons_zero]
   refine opE_step ?_
   rw [if_pos (by rfl)]
   go_simp
   go_at_call 19
   (with_reducible refine (same_below Ay (some ⟨gx,0,none⟩) 32 32 cy 32 wx.heap.size y x wx hy.symm hx.symm ((r1.below B1.out (Nat.le_refl _)).more B1.out.size) Rx.out).mono ?_)
   rintro e ws ⟨he,hbs⟩
   rw [decide_eq_true hyx] at he
   obtain rfl:=he
   have B2:=Lib.hid (B1.out.trans (hbs.mono B1.out.size))
   replace HS0:=Lib.hid (show (fun V=>V.cell? ⟨b1,o1 + k,none⟩=some (.slice Ay 32 cy)∧V.cell? ⟨b2,o2 + k,none⟩=some (.slice Aw 32 cw)∧Below w.heap.size w V) ws from ⟨(B2.out.cell (p:=⟨b1,o1 + k,none⟩) hl1).trans z1,(B2.out.cell (p:=⟨b2,o2 + k,none⟩) hl2).trans z2,B2.out⟩)
   clear hbs
   try dsimp only
   refine ⟨HS0.out,?_⟩
   try simp only [Act.put,List.getElem_toArray,List.getElem_cons_succ,List.getElem_cons_zero,List.setIfInBounds_toArray,List.set_cons_zero,List.set_cons_succ]
   refine' anyI_take R 11 rfl (v:=?_) (by kernel_rfl) (by rfl) (fun V hV=>?hy) HS0.out ?_
   case hy=>((try dsimp only at hV); obtain ⟨y1,y2,_⟩:=hV;go_simp;try with_reducible rfl)
   try simp only [Act.put,List.getElem_toArray,List.getElem_cons_succ,List.getElem_cons_zero,List.setIfInBounds_toArray,List.set_cons_zero,List.set_cons_succ]
   refine' anyI_take R 12 rfl (v:=?_) (by kernel_rfl) (by rfl) (fun V hV=>?hy) HS0.out ?_
   case hy=>((try dsimp only at hV); obtain ⟨y1,y2,_⟩:=hV;go_simp;try with_reducible rfl)
   try simp only [Act.put,List.getElem_toArray,List.getElem_cons_succ,List.getElem_cons_zero,List.setIfInBounds_toArray,List.set_cons_zero,List.set_cons_succ]
   refine anyI_skip R 13 rfl (by kernel_rfl) (by rfl) HS0.out ?_
   try simp only [Act.put,List.getElem_toArray,List.getElem_cons_succ,List.getElem_cons_zero,List.setIfInBounds_toArray,List.set_cons_zero,List.set_cons_succ]
   refine anyI_skip R 14 rfl (by kernel_rfl) (by rfl) HS0.out ?_
   try simp only [Act.put,List.getElem_toArray,List.getElem_cons_succ,List.getElem_cons_zero,List.setIfInBounds_toArray,List.set_cons_zero,List.set_cons_succ]
   refine anyI_skip R 15 rfl (by kernel_rfl) (by rfl) HS0.out ?_
   try simp only [Act.put,List.getElem_toArray,List.getElem_cons_succ,List.getElem_cons_zero,List.setIfInBounds_toArray,List.set_cons_zero,List.set_cons_succ]
   refine anyI_skip R 16 rfl (by kernel_rfl) (by rfl) HS0.out ?_
   try simp only [Act.put,List.getElem_toArray,List.getElem_cons_succ,List.getElem_cons_zero,List.setIfInBounds_toArray,List.set_cons_zero,List.set_cons_succ]
   refine anyI_skip R 17 rfl (by kernel_rfl) (by rfl) HS0.out ?_
   try simp only [Act.put,List.getElem_toArray,List.getElem_cons_succ,List.getElem_cons_zero,List.setIfInBounds_toArray,List.set_cons_zero,List.set_cons_succ]
   refine anyI_skip R 18 rfl (by kernel_rfl) (by rfl) HS0.out ?_
   try simp only [Act.put,List.getElem_toArray,List.getElem_cons_succ,List.getElem_cons_zero,List.setIfInBounds_toArray,List.set_cons_zero,List.set_cons_succ]
   refine anyI_skip R 19 rfl (by kernel_rfl) (by rfl) HS0.out ?_
   try simp only [Act.put,List.getElem_toArray,List.getElem_cons_succ,List.getElem_cons_zero,List.setIfInBounds_toArray,List.set_cons_zero,List.set_cons_succ]
   refine anyI_skip R 20 rfl (by kernel_rfl) (by rfl) HS0.out ?_
   try simp only [Act.put,List.getElem_toArray,List.getElem_cons_succ,List.getElem_cons_zero,List.setIfInBounds_toArray,List.set_cons_zero,List.set_cons_succ]
   refine anyI_skip R 21 rfl (by kernel_rfl) (by rfl) HS0.out ?_
   try simp only [Act.put,List.getElem_toArray,List.getElem_cons_succ,List.getElem_cons_zero,List.setIfInBounds_toArray,List.set_cons_zero,List.set_cons_succ]
   refine anyI_skip R 22 rfl (by kernel_rfl) (by rfl) HS0.out ?_
   try simp only [Act.put,List.getElem_toArray,List.getElem_cons_succ,List.getElem_cons_zero,List.setIfInBounds_toArray,List.set_cons_zero,List.set_cons_succ]
   refine anyI_skip R 23 rfl (by kernel_rfl) (by rfl) HS0.out ?_
   try simp only [Act.put,List.getElem_toArray,List.getElem_cons_succ,List.getElem_cons_zero,List.setIfInBounds_toArray,List.set_cons_zero,List.set_cons_succ]
   refine anyI_skip R 24 rfl (by kernel_rfl) (by rfl) HS0.out ?_
   try simp only [Act.put,List.getElem_toArray,List.getElem_cons_succ,List.getElem_cons_zero,List.setIfInBounds_toArray,List.set_cons_zero,List.set_cons_succ]
   refine anyI_skip R 25 rfl (by kernel_rfl) (by rfl) HS0.out ?_
   try simp only [Act.put,List.getElem_toArray,List.getElem_cons_succ,List.getElem_cons_zero,List.setIfInBounds_toArray,List.set_cons_zero,List.set_cons_succ]
   refine anyI_skip R 26 rfl (by kernel_rfl) (by rfl) HS0.out ?_
   try simp only [Act.put,List.getElem_toArray,List.getElem_cons_succ,List.getElem_cons_zero,List.setIfInBounds_toArray,List.set_cons_zero,List.set_cons_succ]
   refine anyI_skip R 27 rfl (by kernel_rfl) (by rfl) HS0.out ?_
   try simp only [Act.put,List.getElem_toArray,List.getElem_cons_succ,List.getElem_cons_zero,List.setIfInBounds_toArray,List.set_cons_zero,List.set_cons_succ]
   refine anyI_skip R 28 rfl (by kernel_rfl) (by rfl) HS0.out ?_
   try simp only [Act.put,List.getElem_toArray,List.getElem_cons_succ,List.getElem_cons_zero,List.setIfInBounds_toArray,List.set_cons_zero,List.set_cons_succ]
   refine anyI_skip R 29 rfl (by kernel_rfl) (by rfl) HS0.out ?_
   try simp only [Act.put,List.getElem_toArray,List.getElem_cons_succ,List.getElem_cons_zero,List.setIfInBounds_toArray,List.set_cons_zero,List.set_cons_succ]
   refine anyI_skip R 30 rfl (by kernel_rfl) (by rfl) HS0.out ?_
   try simp only [Act.put,List.getElem_toArray,List.getElem_cons_succ,List.getElem_cons_zero,List.setIfInBounds_toArray,List.set_cons_zero,List.set_cons_succ]
   refine anyI_skip R 31 rfl (by kernel_rfl) (by rfl) HS0.out ?_
   try simp only [Act.put,List.getElem_toArray,List.getElem_cons_succ,List.getElem_cons_zero,List.setIfInBounds_toArray,List.set_cons_zero,List.set_cons_succ]
   refine' anyI_take R 32 rfl (v:=?_) (by kernel_rfl) (by rfl) (fun V hV=>?hy) HS0.out ?_
   case hy=>((try dsimp only at hV); obtain ⟨y1,y2,_⟩:=hV;go_simp;try with_reducible rfl)
   try simp only [Act.put,List.getElem_toArray,List.getElem_cons_succ,List.getElem_cons_zero,List.setIfInBounds_toArray,List.set_cons_zero,List.set_cons_succ]
   refine anyI_tail (by kernel_rfl) ?_
   try simp only [List.drop_succ_cons,List.drop_zero]
   clear R
   go_wp2_with fail
   refine NoPanic.normal ?_
   exact HK.out _ _ _ _ _ _ _ _ _ _ _ _ _ _ _ _ _ _ _ _ _ _ _ _ _ _ _ _ _ _ _ _ ws B2.out
  ·have hyw:y=wv∧dn=true:=by
     rcases hc with h | h | h
     ·exact absurd hmp h.1
     ·exact absurd h.2 hyx
     ·exact h.2
   obtain ⟨hyw,rfl⟩:=hyw
   clear hc hmp
   refine wp_region_noPanic (region_ord 33 [] (fun V=>V.cell? ⟨b1,o1 + k,none⟩=some (.slice Ay 32 cy)∧V.cell? ⟨b2,o2 + k,none⟩=some (.slice Aw 32 cw)∧Below w.heap.size w V) (by kernel_rfl) (by kernel_rfl) (fun _ _ _ _ _ h=>h) fun R=>?_)
   change anyI _ _ _ _ _ _ 33 _ _ w.drew
   have HS0:=Lib.hid (show (fun V=>V.cell? ⟨b1,o1 + k,none⟩=some (.slice Ay 32 cy)∧V.cell? ⟨b2,o2 + k,none⟩=some (.slice Aw 32 cw)∧Below w.heap.size w V) w.drew from ⟨z1,z2,(Below.refl _ w).drew⟩)
   refine' anyI_take R 0 rfl (v:=?_) (by kernel_rfl) (by rfl) (fun V hV=>?hy) HS0.out ?_
   case hy=>((try dsimp only at hV); obtain ⟨y1,y2,_⟩:=hV;go_simp;try with_reducible rfl)
   try simp only [Act.put,List.getElem_toArray,List.getElem_cons_succ,List.getElem_cons_zero,List.setIfInBounds_toArray,List.set_cons_zero,List.set_cons_succ]
   refine' anyI_take R 1 rfl (v:=?_) (by kernel_rfl) (by rfl) (fun V hV=>?hy) HS0.out ?_
   case hy=>((try dsimp only at hV); obtain ⟨y1,y2,_⟩:=hV;go_simp;try with_reducible rfl)
   try simp only [Act.put,List.getElem_toArray,List.getElem_cons_succ,List.getElem_cons_zero,List.setIfInBounds_toArray,List.set_cons_zero,List.set_cons_succ]
   refine' anyI_take R 2 rfl (v:=?_) (by kernel_rfl) (by rfl) (fun V hV=>?hy) HS0.out ?_
   case hy=>((try dsimp only at hV); obtain ⟨y1,y2,_⟩:=hV;go_simp;try with_reducible rfl)
   try simp only [Act.put,List.getElem_toArray,List.getElem_cons_succ,List.getElem_cons_zero,List.setIfInBounds_toArray,List.set_cons_zero,List.set_cons_succ]
   refine' anyI_take R 3 rfl (v:=?_) (by kernel_rfl) (by rfl) (fun V hV=>?hy) HS0.out ?_
   case hy=>((try dsimp only at hV); obtain ⟨y1,y2,_⟩:=hV;go_simp;try with_reducible rfl)
   try simp only [Act.put,List.getElem_toArray,List.getElem_cons_succ,List.getElem_cons_zero,List.setIfInBounds_toArray,List.set_cons_zero,List.set_cons_succ]
   refine' anyI_take R 4 rfl (v:=?_) (by kernel_rfl) (by rfl) (fun V hV=>?hy) HS0.out ?_
   case hy=>((try dsimp only at hV); obtain ⟨y1,y2,_⟩:=hV;go_simp;try with_reducible rfl)
   try simp only [Act.put,List.getElem_toArray,List.getElem_cons_succ,List.getElem_cons_zero,List.setIfInBounds_toArray,List.set_cons_zero,List.set_cons_succ]
   refine' anyI_take R 5 rfl (v:=?_) (by kernel_rfl) (by rfl) (fun V hV=>?hy) HS0.out ?_
   case hy=>((try dsimp only at hV); obtain ⟨y1,y2,_⟩:=hV;go_simp;try with_reducible rfl)
   try simp only [Act.put,List.getElem_toArray,List.getElem_cons_succ,List.getElem_cons_zero,List.setIfInBounds_toArray,List.set_cons_zero,List.set_cons_succ]
   refine' anyI_take R 6 rfl (v:=?_) (by kernel_rfl) (by rfl) (fun V hV=>?hy) HS0.out ?_
   case hy=>((try dsimp only at hV); obtain ⟨y1,y2,_⟩:=hV;go_simp;try with_reducible rfl)
   try simp only [Act.put,List.getElem_toArray,List.getElem_cons_succ,List.getElem_cons_zero,List.setIfInBounds_toArray,List.set_cons_zero,List.set_cons_succ]
   refine' anyI_take R 7 rfl (v:=?_) (by kernel_rfl) (by rfl) (fun V hV=>?hy) HS0.out ?_
   case hy=>((try dsimp only at hV); obtain ⟨y1,y2,_⟩:=hV;go_simp;try with_reducible rfl)
   try simp only [Act.put,List.getElem_toArray,List.getElem_cons_succ,List.getElem_cons_zero,List.setIfInBounds_toArray,List.set_cons_zero,List.set_cons_succ]
   refine' anyI_take R 8 rfl (v:=?_) (by kernel_rfl) (by rfl) (fun V hV=>?hy) HS0.out ?_
   case hy=>((try dsimp only at hV); obtain ⟨y1,y2,_⟩:=hV;go_simp;try with_reducible rfl)
   try simp only [Act.put,List.getElem_toArray,List.getElem_cons_succ,List.getElem_cons_zero,List.setIfInBounds_toArray,List.set_cons_zero,List.set_cons_succ]
   refine anyI_one 9 (by kernel_rfl) rfl ?_
   try simp only [List.getElem_toArray,List.getElem_cons_succ,List.getElem_cons_zero]
   refine opE_step ?_
   rw [if_pos (by rfl)]
   go_simp
   go_at_call 14
   (with_reducible refine (CSe.out _).mono ?_)
   rintro e wx ⟨gx,rfl,hxo,hbx⟩
   have B1:=Lib.hid (show Below w.heap.size w wx from (Below.refl _ w).drew.trans (hbx.mono (Nat.le_refl _)))
   have Rx:=Lib.hid hxo.rdS.1
   replace HS0:=Lib.hid (show (fun V=>V.cell? ⟨b1,o1 + k,none⟩=some (.slice Ay 32 cy)∧V.cell? ⟨b2,o2 + k,none⟩=some (.slice Aw 32 cw)∧Below w.heap.size w V) wx from ⟨(B1.out.cell (p:=⟨b1,o1 + k,none⟩) hl1).trans z1,(B1.out.cell (p:=⟨b2,o2 + k,none⟩) hl2).trans z2,B1.out⟩)
   clear hxo hbx
   try dsimp only
   refine ⟨HS0.out,?_⟩
   try simp only [Act.put,List.getElem_toArray,List.getElem_cons_succ,List.getElem_cons_zero,List.setIfInBounds_toArray,List.set_cons_zero,List.set_cons_succ]
   refine anyI_one 10 (by kernel_rfl) rfl ?_
   try simp only [List.getElem_toArray,List.getElem_cons_succ,List.getElem_cons_zero]
   refine opE_step ?_
   rw [if_pos (by rfl)]
   go_simp
   go_at_call 19
   (with_reducible refine (same_below Ay (some ⟨gx,0,none⟩) 32 32 cy 32 wx.heap.size y x wx hy.symm hx.symm ((r1.below B1.out (Nat.le_refl _)).more B1.out.size) Rx.out).mono ?_)
   rintro e ws ⟨he,hbs⟩
   rw [decide_eq_false hyx] at he
   obtain rfl:=he
   have B2:=Lib.hid (B1.out.trans (hbs.mono B1.out.size))
   replace HS0:=Lib.hid (show (fun V=>V.cell? ⟨b1,o1 + k,none⟩=some (.slice Ay 32 cy)∧V.cell? ⟨b2,o2 + k,none⟩=some (.slice Aw 32 cw)∧Below w.heap.size w V) ws from ⟨(B2.out.cell (p:=⟨b1,o1 + k,none⟩) hl1).trans z1,(B2.out.cell (p:=⟨b2,o2 + k,none⟩) hl2).trans z2,B2.out⟩)
   clear hbs
   try dsimp only
   refine ⟨HS0.out,?_⟩
   try simp only [Act.put,List.getElem_toArray,List.getElem_cons_succ,List.getElem_cons_zero,List.setIfInBounds_toArray,List.set_cons_zero,List.set_cons_succ]
   refine' anyI_take R 11 rfl (v:=?_) (by kernel_rfl) (by rfl) (fun V hV=>?hy) HS0.out ?_
   case hy=>((try dsimp only at hV); obtain ⟨y1,y2,_⟩:=hV;go_simp;try with_reducible rfl)
   try simp only [Act.put,List.getElem_toArray,List.getElem_cons_succ,List.getElem_cons_zero,List.setIfInBounds_toArray,List.set_cons_zero,List.set_cons_succ]
   refine' anyI_take R 12 rfl (v:=?_) (by kernel_rfl) (by rfl) (fun V hV=>?hy) HS0.out ?_
   case hy=>((try dsimp only at hV); obtain ⟨y1,y2,_⟩:=hV;go_simp;try with_reducible rfl)
   try simp only [Act.put,List.getElem_toArray,List.getElem_cons_succ,List.getElem_cons_zero,List.setIfInBounds_toArray,List.set_cons_zero,List.set_cons_succ]
   refine' anyI_take R 13 rfl (v:=?_) (by kernel_rfl) (by rfl) (fun V hV=>?hy) HS0.out ?_
   case hy=>((try dsimp only at hV); obtain ⟨y1,y2,_⟩:=hV;go_simp;try with_reducible rfl)
   try simp only [Act.put,List.getElem_toArray,List.getElem_cons_succ,List.getElem_cons_zero,List.setIfInBounds_toArray,List.set_cons_zero,List.set_cons_succ]
   refine' anyI_take R 14 rfl (v:=?_) (by kernel_rfl) (by rfl) (fun V hV=>?hy) HS0.out ?_
   case hy=>((try dsimp only at hV); obtain ⟨y1,y2,_⟩:=hV;go_simp;try with_reducible rfl)
   try simp only [Act.put,List.getElem_toArray,List.getElem_cons_succ,List.getElem_cons_zero,List.setIfInBounds_toArray,List.set_cons_zero,List.set_cons_succ]
   refine' anyI_take R 15 rfl (v:=?_) (by kernel_rfl) (by rfl) (fun V hV=>?hy) HS0.out ?_
   case hy=>((try dsimp only at hV); obtain ⟨y1,y2,_⟩:=hV;go_simp;try with_reducible rfl)
   try simp only [Act.put,List.getElem_toArray,List.getElem_cons_succ,List.getElem_cons_zero,List.setIfInBounds_toArray,List.set_cons_zero,List.set_cons_succ]
   refine' anyI_take R 16 rfl (v:=?_) (by kernel_rfl) (by rfl) (fun V hV=>?hy) HS0.out ?_
   case hy=>((try dsimp only at hV); obtain ⟨y1,y2,_⟩:=hV;go_simp;try with_reducible rfl)
   try simp only [Act.put,List.getElem_toArray,List.getElem_cons_succ,List.getElem_cons_zero,List.setIfInBounds_toArray,List.set_cons_zero,List.set_cons_succ]
   refine' anyI_take R 17 rfl (v:=?_) (by kernel_rfl) (by rfl) (fun V hV=>?hy) HS0.out ?_
   case hy=>((try dsimp only at hV); obtain ⟨y1,y2,_⟩:=hV;go_simp;try with_reducible rfl)
   try simp only [Act.put,List.getElem_toArray,List.getElem_cons_succ,List.getElem_cons_zero,List.setIfInBounds_toArray,List.set_cons_zero,List.set_cons_succ]
   refine' anyI_take R 18 rfl (v:=?_) (by kernel_rfl) (by rfl) (fun V hV=>?hy) HS0.out ?_
   case hy=>((try dsimp only at hV); obtain ⟨y1,y2,_⟩:=hV;go_simp;try with_reducible rfl)
   try simp only [Act.put,List.getElem_toArray,List.getElem_cons_succ,List.getElem_cons_zero,List.setIfInBounds_toArray,List.set_cons_zero,List.set_cons_succ]
   refine' anyI_take R 19 rfl (v:=?_) (by kernel_rfl) (by rfl) (fun V hV=>?hy) HS0.out ?_
   case hy=>((try dsimp only at hV); obtain ⟨y1,y2,_⟩:=hV;go_simp;try with_reducible rfl)
   try simp only [Act.put,List.getElem_toArray,List.getElem_cons_succ,List.getElem_cons_zero,List.setIfInBounds_toArray,List.set_cons_zero,List.set_cons_succ]
   refine' anyI_take R 20 rfl (v:=?_) (by kernel_rfl) (by rfl) (fun V hV=>?hy) HS0.out ?_
   case hy=>((try dsimp only at hV); obtain ⟨y1,y2,_⟩:=hV;go_simp;try with_reducible rfl)
   try simp only [Act.put,List.getElem_toArray,List.getElem_cons_succ,List.getElem_cons_zero,List.setIfInBounds_toArray,List.set_cons_zero,List.set_cons_succ]
   refine' anyI_take R 21 rfl (v:=?_) (by kernel_rfl) (by rfl) (fun V hV=>?hy) HS0.out ?_
   case hy=>((try dsimp only at hV); obtain ⟨y1,y2,_⟩:=hV;go_simp;try with_reducible rfl)
   try simp only [Act.put,List.getElem_toArray,List.getElem_cons_succ,List.getElem_cons_zero,List.setIfInBounds_toArray,List.set_cons_zero,List.set_cons_succ]
   refine' anyI_take R 22 rfl (v:=?_) (by kernel_rfl) (by rfl) (fun V hV=>?hy) HS0.out ?_
   case hy=>((try dsimp only at hV); obtain ⟨y1,y2,_⟩:=hV;go_simp;try with_reducible rfl)
   try simp only [Act.put,List.getElem_toArray,List.getElem_cons_succ,List.getElem_cons_zero,List.setIfInBounds_toArray,List.set_cons_zero,List.set_cons_succ]
   refine' anyI_take R 23 rfl (v:=?_) (by kernel_rfl) (by rfl) (fun V hV=>?hy) HS0.out ?_
   case hy=>((try dsimp only at hV); obtain ⟨y1,y2,_⟩:=hV;go_simp;try with_reducible rfl)
   try simp only [Act.put,List.getElem_toArray,List.getElem_cons_succ,List.getElem_cons_zero,List.setIfInBounds_toArray,List.set_cons_zero,List.set_cons_succ]
   refine' anyI_take R 24 rfl (v:=?_) (by kernel_rfl) (by rfl) (fun V hV=>?hy) HS0.out ?_
   case hy=>((try dsimp only at hV); obtain ⟨y1,y2,_⟩:=hV;go_simp;try with_reducible rfl)
   try simp only [Act.put,List.getElem_toArray,List.getElem_cons_succ,List.getElem_cons_zero,List.setIfInBounds_toArray,List.set_cons_zero,List.set_cons_succ]
   refine' anyI_take R 25 rfl (v:=?_) (by kernel_rfl) (by rfl) (fun V hV=>?hy) HS0.out ?_
   case hy=>((try dsimp only at hV); obtain ⟨y1,y2,_⟩:=hV;go_simp;try with_reducible rfl)
   try simp only [Act.put,List.getElem_toArray,List.getElem_cons_succ,List.getElem_cons_zero,List.setIfInBounds_toArray,List.set_cons_zero,List.set_cons_succ]
   refine' anyI_take R 26 rfl (v:=?_) (by kernel_rfl) (by rfl) (fun V hV=>?hy) HS0.out ?_
   case hy=>((try dsimp only at hV); obtain ⟨y1,y2,_⟩:=hV;go_simp;try with_reducible rfl)
   try simp only [Act.put,List.getElem_toArray,List.getElem_cons_succ,List.getElem_cons_zero,List.setIfInBounds_toArray,List.set_cons_zero,List.set_cons_succ]
   refine' anyI_take R 27 rfl (v:=?_) (by kernel_rfl) (by rfl) (fun V hV=>?hy) HS0.out ?_
   case hy=>((try dsimp only at hV); obtain ⟨y1,y2,_⟩:=hV;go_simp;try with_reducible rfl)
   try simp only [Act.put,List.getElem_toArray,List.getElem_cons_succ,List.getElem_cons_zero,List.setIfInBounds_toArray,List.set_cons_zero,List.set_cons_succ]
   refine' anyI_take R 28 rfl (v:=?_) (by kernel_rfl) (by rfl) (fun V hV=>?hy) HS0.out ?_
   case hy=>((try dsimp only at hV); obtain ⟨y1,y2,_⟩:=hV;go_simp;try with_reducible rfl)
   try simp only [Act.put,List.getElem_toArray,List.getElem_cons_succ,List.getElem_cons_zero,List.setIfInBounds_toArray,List.set_cons_zero,List.set_cons_succ]
   refine' anyI_take R 29 rfl (v:=?_) (by kernel_rfl) (by rfl) (fun V hV=>?hy) HS0.out ?_
   case hy=>((try dsimp only at hV); obtain ⟨y1,y2,_⟩:=hV;go_simp;try with_reducible rfl)
   try simp only [Act.put,List.getElem_toArray,List.getElem_cons_succ,List.getElem_cons_zero,List.setIfInBounds_toArray,List.set_cons_zero,List.set_cons_succ]
   refine anyI_one 30 (by kernel_rfl) rfl ?_
   try simp only [List.getElem_toArray,List.getElem_cons_succ,List.getElem_cons_zero]
   refine opE_step ?_
   rw [if_pos (by rfl)]
   go_simp
   go_at_call 19
   (with_reducible refine (same_below Ay Aw 32 32 cy cw w.heap.size y wv ws hy.symm hwv.symm (r1.below B2.out (Nat.le_refl _)) (r2.below B2.out (Nat.le_refl _))).mono ?_)
   rintro e wt ⟨he,hbt⟩
   rw [decide_eq_true hyw] at he
   obtain rfl:=he
   have B3:=Lib.hid (Below.trans B2.out (hbt.mono B2.out.size))
   replace HS0:=Lib.hid (show (fun V=>V.cell? ⟨b1,o1 + k,none⟩=some (.slice Ay 32 cy)∧V.cell? ⟨b2,o2 + k,none⟩=some (.slice Aw 32 cw)∧Below w.heap.size w V) wt from ⟨(B3.out.cell (p:=⟨b1,o1 + k,none⟩) hl1).trans z1,(B3.out.cell (p:=⟨b2,o2 + k,none⟩) hl2).trans z2,B3.out⟩)
   clear hbt
   try dsimp only
   refine ⟨HS0.out,?_⟩
   try simp only [Act.put,List.getElem_toArray,List.getElem_cons_succ,List.getElem_cons_zero,List.setIfInBounds_toArray,List.set_cons_zero,List.set_cons_succ]
   refine' anyI_take R 31 rfl (v:=?_) (by kernel_rfl) (by rfl) (fun V hV=>?hy) HS0.out ?_
   case hy=>((try dsimp only at hV); obtain ⟨y1,y2,_⟩:=hV;go_simp;try with_reducible rfl)
   try simp only [Act.put,List.getElem_toArray,List.getElem_cons_succ,List.getElem_cons_zero,List.setIfInBounds_toArray,List.set_cons_zero,List.set_cons_succ]
   refine' anyI_take R 32 rfl (v:=?_) (by kernel_rfl) (by rfl) (fun V hV=>?hy) HS0.out ?_
   case hy=>((try dsimp only at hV); obtain ⟨y1,y2,_⟩:=hV;go_simp;try with_reducible rfl)
   try simp only [Act.put,List.getElem_toArray,List.getElem_cons_succ,List.getElem_cons_zero,List.setIfInBounds_toArray,List.set_cons_zero,List.set_cons_succ]
   refine anyI_tail (by kernel_rfl) ?_
   try simp only [List.drop_succ_cons,List.drop_zero]
   clear R
   go_wp2_with fail
   refine NoPanic.normal ?_
   exact HK.out _ _ _ _ _ _ _ _ _ _ _ _ _ _ _ _ _ _ _ _ _ _ _ _ _ _ _ _ _ _ _ _ wt B3.out
 ·have em:(m == pn)=false:=by rw [beq_eq_false_iff_ne];exact hmp
  have hyw:y=wv:=by
   rcases hc with h | h | h
   ·exact h.2
   ·exact absurd h.1 hmp
   ·exact absurd h.1 hmp
  clear hc CSe
  refine wp_region_noPanic (region_ord 33 [] (fun V=>V.cell? ⟨b1,o1 + k,none⟩=some (.slice Ay 32 cy)∧V.cell? ⟨b2,o2 + k,none⟩=some (.slice Aw 32 cw)∧Below w.heap.size w V) (by kernel_rfl) (by kernel_rfl) (fun _ _ _ _ _ h=>h) fun R=>?_)
  change anyI _ _ _ _ _ _ 33 _ _ w.drew
  have HS0:=Lib.hid (show (fun V=>V.cell? ⟨b1,o1 + k,none⟩=some (.slice Ay 32 cy)∧V.cell? ⟨b2,o2 + k,none⟩=some (.slice Aw 32 cw)∧Below w.heap.size w V) w.drew from ⟨z1,z2,(Below.refl _ w).drew⟩)
  refine' anyI_take R 0 rfl (v:=?_) (by kernel_rfl) (by rfl) (fun V hV=>?hy) HS0.out ?_
  case hy=>((try dsimp only at hV); obtain ⟨y1,y2,_⟩:=hV;go_simp;try with_reducible rfl)
  try simp only [Act.put,List.getElem_toArray,List.getElem_cons_succ,List.getElem_cons_zero,List.setIfInBounds_toArray,List.set_cons_zero,List.set_cons_succ]
  refine' anyI_take R 1 rfl (v:=?_) (by kernel_rfl) (by rfl) (fun V hV=>?hy) HS0.out ?_
  case hy=>((try dsimp only at hV); obtain ⟨y1,y2,_⟩:=hV;go_simp;try with_reducible rfl)
  try simp only [Act.put,List.getElem_toArray,List.getElem_cons_succ,List.getElem_cons_zero,List.setIfInBounds_toArray,List.set_cons_zero,List.set_cons_succ]
  refine' anyI_take R 2 rfl (v:=?_) (by kernel_rfl) (by rfl) (fun V hV=>?hy) HS0.out ?_
  case hy=>((try dsimp only at hV); obtain ⟨y1,y2,_⟩:=hV;go_simp;try with_reducible rfl)
  try simp only [Act.put,List.getElem_toArray,List.getElem_cons_succ,List.getElem_cons_zero,List.setIfInBounds_toArray,List.set_cons_zero,List.set_cons_succ]
  refine' anyI_take R 3 rfl (v:=?_) (by kernel_rfl) (by rfl) (fun V hV=>?hy) HS0.out ?_
  case hy=>((try dsimp only at hV); obtain ⟨y1,y2,_⟩:=hV;go_simp;try with_reducible rfl)
  try simp only [Act.put,List.getElem_toArray,List.getElem_cons_succ,List.getElem_cons_zero,List.setIfInBounds_toArray,List.set_cons_zero,List.set_cons_succ]
  refine anyI_skip R 4 rfl (by kernel_rfl) (by rfl) HS0.out ?_
  try simp only [Act.put,List.getElem_toArray,List.getElem_cons_succ,List.getElem_cons_zero,List.setIfInBounds_toArray,List.set_cons_zero,List.set_cons_succ]
  refine anyI_skip R 5 rfl (by kernel_rfl) (by rfl) HS0.out ?_
  try simp only [Act.put,List.getElem_toArray,List.getElem_cons_succ,List.getElem_cons_zero,List.setIfInBounds_toArray,List.set_cons_zero,List.set_cons_succ]
  refine anyI_skip R 6 rfl (by kernel_rfl) (by rfl) HS0.out ?_
  try simp only [Act.put,List.getElem_toArray,List.getElem_cons_succ,List.getElem_cons_zero,List.setIfInBounds_toArray,List.set_cons_zero,List.set_cons_succ]
  refine anyI_skip R 7 rfl (by kernel_rfl) (by rfl) HS0.out ?_
  try simp only [Act.put,List.getElem_toArray,List.getElem_cons_succ,List.getElem_cons_zero,List.setIfInBounds_toArray,List.set_cons_zero,List.set_cons_succ]
  refine anyI_skip R 8 rfl (by kernel_rfl) (by rfl) HS0.out ?_
  try simp only [Act.put,List.getElem_toArray,List.getElem_cons_succ,List.getElem_cons_zero,List.setIfInBounds_toArray,List.set_cons_zero,List.set_cons_succ]
  refine anyI_skip R 9 rfl (by kernel_rfl) (by rfl) HS0.out ?_
  try simp only [Act.put,List.getElem_toArray,List.getElem_cons_succ,List.getElem_cons_zero,List.setIfInBounds_toArray,List.set_cons_zero,List.set_cons_succ]
  refine anyI_skip R 10 rfl (by kernel_rfl) (by rfl) HS0.out ?_
  try simp only [Act.put,List.getElem_toArray,List.getElem_cons_succ,List.getElem_cons_zero,List.setIfInBounds_toArray,List.set_cons_zero,List.set_cons_succ]
  refine' anyI_take R 11 rfl (v:=?_) (by kernel_rfl) (by rfl) (fun V hV=>?hy) HS0.out ?_
  case hy=>((try dsimp only at hV); obtain ⟨y1,y2,_⟩:=hV;go_simp;try with_reducible rfl)
  try simp only [Act.put,List.getElem_toArray,List.getElem_cons_succ,List.getElem_cons_zero,List.setIfInBounds_toArray,List.set_cons_zero,List.set_cons_succ]
  refine' anyI_take R 12 rfl (v:=?_) (by kernel_rfl) (by rfl) (fun V hV=>?hy) HS0.out ?_
  case hy=>((try dsimp only at hV); obtain ⟨y1,y2,_⟩:=hV;go_simp;try with_reducible rfl)
  try simp only [Act.put,List.getElem_toArray,List.getElem_cons_succ,List.getElem_cons_zero,List.setIfInBounds_toArray,List.set_cons_zero,List.set_cons_succ]
  refine' anyI_take R 13 rfl (v:=?_) (by kernel_rfl) (by rfl) (fun V hV=>?hy) HS0.out ?_
  case hy=>((try dsimp only at hV); obtain ⟨y1,y2,_⟩:=hV;go_simp;try with_reducible rfl)
  try simp only [Act.put,List.getElem_toArray,List.getElem_cons_succ,List.getElem_cons_zero,List.setIfInBounds_toArray,List.set_cons_zero,List.set_cons_succ]
  refine' anyI_take R 14 rfl (v:=?_) (by kernel_rfl) (by rfl) (fun V hV=>?hy) HS0.out ?_
  case hy=>((try dsimp only at hV); obtain ⟨y1,y2,_⟩:=hV;go_simp;try with_reducible rfl)
  try simp only [Act.put,List.getElem_toArray,List.getElem_cons_succ,List.getElem_cons_zero,List.setIfInBounds_toArray,List.set_cons_zero,List.set_cons_succ]
  refine' anyI_take R 15 rfl (v:=?_) (by kernel_rfl) (by rfl) (fun V hV=>?hy) HS0.out ?_
  case hy=>((try dsimp only at hV); obtain ⟨y1,y2,_⟩:=hV;go_simp;try with_reducible rfl)
  try simp only [Act.put,List.getElem_toArray,List.getElem_cons_succ,List.getElem_cons_zero,List.setIfInBounds_toArray,List.set_cons_zero,List.set_cons_succ]
  refine' anyI_take R 16 rfl (v:=?_) (by kernel_rfl) (by rfl) (fun V hV=>?hy) HS0.out ?_
  case hy=>((try dsimp only at hV); obtain ⟨y1,y2,_⟩:=hV;go_simp;try with_reducible rfl)
  try simp only [Act.put,List.getElem_toArray,List.getElem_cons_succ,List.getElem_cons_zero,List.setIfInBounds_toArray,List.set_cons_zero,List.set_cons_succ]
  refine anyI_skip R 17 rfl (by kernel_rfl) (by rfl) HS0.out ?_
  try simp only [Act.put,List.getElem_toArray,List.getElem_cons_succ,List.getElem_cons_zero,List.setIfInBounds_toArray,List.set_cons_zero,List.set_cons_succ]
  refine anyI_skip R 18 rfl (by kernel_rfl) (by rfl) HS0.out ?_
  try simp only [Act.put,List.getElem_toArray,List.getElem_cons_succ,List.getElem_cons_zero,List.setIfInBounds_toArray,List.set_cons_zero,List.set_cons_succ]
  refine' anyI_take R 19 rfl (v:=?_) (by kernel_rfl) (by rfl) (fun V hV=>?hy) HS0.out ?_
  case hy=>((try dsimp only at hV); obtain ⟨y1,y2,_⟩:=hV;go_simp;try with_reducible rfl)
  try simp only [Act.put,List.getElem_toArray,List.getElem_cons_succ,List.getElem_cons_zero,List.setIfInBounds_toArray,List.set_cons_zero,List.set_cons_succ]
  refine' anyI_take R 20 rfl (v:=?_) (by kernel_rfl) (by rfl) (fun V hV=>?hy) HS0.out ?_
  case hy=>((try dsimp only at hV); obtain ⟨y1,y2,_⟩:=hV;go_simp;try with_reducible rfl)
  try simp only [Act.put,List.getElem_toArray,List.getElem_cons_succ,List.getElem_cons_zero,List.setIfInBounds_toArray,List.set_cons_zero,List.set_cons_succ]
  refine' anyI_take R 21 rfl (v:=?_) (by kernel_rfl) (by rfl) (fun V hV=>?hy) HS0.out ?_
  case hy=>((try dsimp only at hV); obtain ⟨y1,y2,_⟩:=hV;go_simp;try with_reducible rfl)
  try simp only [Act.put,List.getElem_toArray,List.getElem_cons_succ,List.getElem_cons_zero,List.setIfInBounds_toArray,List.set_cons_zero,List.set_cons_succ]
  refine' anyI_take R 22 rfl (v:=?_) (by kernel_rfl) (by rfl) (fun V hV=>?hy) HS0.out ?_
  case hy=>((try dsimp only at hV); obtain ⟨y1,y2,_⟩:=hV;go_simp;try with_reducible rfl)
  try simp only [Act.put,List.getElem_toArray,List.getElem_cons_succ,List.getElem_cons_zero,List.setIfInBounds_toArray,List.set_cons_zero,List.set_cons_succ]
  refine' anyI_take R 23 rfl (v:=?_) (by kernel_rfl) (by rfl) (fun V hV=>?hy) HS0.out ?_
  case hy=>((try dsimp only at hV); obtain ⟨y1,y2,_⟩:=hV;go_simp;try with_reducible rfl)
  try simp only [Act.put,List.getElem_toArray,List.getElem_cons_succ,List.getElem_cons_zero,List.setIfInBounds_toArray,List.set_cons_zero,List.set_cons_succ]
  refine' anyI_take R 24 rfl (v:=?_) (by kernel_rfl) (by rfl) (fun V hV=>?hy) HS0.out ?_
  case hy=>((try dsimp only at hV); obtain ⟨y1,y2,_⟩:=hV;go_simp;try with_reducible rfl)
  try simp only [Act.put,List.getElem_toArray,List.getElem_cons_succ,List.getElem_cons_zero,List.setIfInBounds_toArray,List.set_cons_zero,List.set_cons_succ]
  refine' anyI_take R 25 rfl (v:=?_) (by kernel_rfl) (by rfl) (fun V hV=>?hy) HS0.out ?_
  case hy=>((try dsimp only at hV); obtain ⟨y1,y2,_⟩:=hV;go_simp;try with_reducible rfl)
  try simp only [Act.put,List.getElem_toArray,List.getElem_cons_succ,List.getElem_cons_zero,List.setIfInBounds_toArray,List.set_cons_zero,List.set_cons_succ]
  refine' anyI_take R 26 rfl (v:=?_) (by kernel_rfl) (by rfl) (fun V hV=>?hy) HS0.out ?_
  case hy=>((try dsimp only at hV); obtain ⟨y1,y2,_⟩:=hV;go_simp;try with_reducible rfl)
  try simp only [Act.put,List.getElem_toArray,List.getElem_cons_succ,List.getElem_cons_zero,List.setIfInBounds_toArray,List.set_cons_zero,List.set_cons_succ]
  refine' anyI_take R 27 rfl (v:=?_) (by kernel_rfl) (by rfl) (fun V hV=>?hy) HS0.out ?_
  case hy=>((try dsimp only at hV); obtain ⟨y1,y2,_⟩:=hV;go_simp;try with_reducible rfl)
  try simp only [Act.put,List.getElem_toArray,List.getElem_cons_succ,List.getElem_cons_zero,List.setIfInBounds_toArray,List.set_cons_zero,List.set_cons_succ]
  refine' anyI_take R 28 rfl (v:=?_) (by kernel_rfl) (by rfl) (fun V hV=>?hy) HS0.out ?_
  case hy=>((try dsimp only at hV); obtain ⟨y1,y2,_⟩:=hV;go_simp;try with_reducible rfl)
  try simp only [Act.put,List.getElem_toArray,List.getElem_cons_succ,List.getElem_cons_zero,List.setIfInBounds_toArray,List.set_cons_zero,List.set_cons_succ]
  refine' anyI_take R 29 rfl (v:=?_) (by kernel_rfl) (by rfl) (fun V hV=>?hy) HS0.out ?_
  case hy=>((try dsimp only at hV); obtain ⟨y1,y2,_⟩:=hV;go_simp;try with_reducible rfl)
  try simp only [Act.put,List.getElem_toArray,List.getElem_cons_succ,List.getElem_cons_zero,List.setIfInBounds_toArray,List.set_cons_zero,List.set_cons_succ]
  refine anyI_one 30 (by kernel_rfl) rfl ?_
  try simp only [List.getElem_toArray,List.getElem_cons_succ,List.getElem_cons_zero]
  refine opE_step ?_
  rw [if_pos (by rfl)]
  go_simp
  go_at_call 19
  (with_reducible refine (same_below Ay Aw 32 32 cy cw w.heap.size y wv w.drew hy.symm hwv.symm (r1.below (Below.refl _ w).drew (Nat.le_refl _)) (r2.below (Below.refl _ w).drew (Nat.le_refl _))).mono ?_)
  rintro e wt ⟨he,hbt⟩
  rw [decide_eq_true hyw] at he
  obtain rfl:=he
  have B3:=Lib.hid (Below.trans (Below.refl _ w).drew (hbt.mono (Nat.le_refl _)))
  replace HS0:=Lib.hid (show (fun V=>V.cell? ⟨b1,o1 + k,none⟩=some (.slice Ay 32 cy)∧V.cell? ⟨b2,o2 + k,none⟩=some (.slice Aw 32 cw)∧Below w.heap.size w V) wt from ⟨(B3.out.cell (p:=⟨b1,o1 + k,none⟩) hl1).trans z1,(B3.out.cell (p:=⟨b2,o2 + k,none⟩) hl2).trans z2,B3.out⟩)
  clear hbt
  try dsimp only
  refine ⟨HS0.out,?_⟩
  try simp only [Act.put,List.getElem_toArray,List.getElem_cons_succ,List.getElem_cons_zero,List.setIfInBounds_toArray,List.set_cons_zero,List.set_cons_succ]
  refine' anyI_take R 31 rfl (v:=?_) (by kernel_rfl) (by rfl) (fun V hV=>?hy) HS0.out ?_
  case hy=>((try dsimp only at hV); obtain ⟨y1,y2,_⟩:=hV;go_simp;try with_reducible rfl)
  try simp only [Act.put,List.getElem_toArray,List.getElem_cons_succ,List.getElem_cons_zero,List.setIfInBounds_toArray,List.set_cons_zero,List.set_cons_succ]
  refine' anyI_take R 32 rfl (v:=?_) (by kernel_rfl) (by rfl) (fun V hV=>?hy) HS0.out ?_
  case hy=>((try dsimp only at hV); obtain ⟨y1,y2,_⟩:=hV;go_simp;try with_reducible rfl)
  try simp only [Act.put,List.getElem_toArray,List.getElem_cons_succ,List.getElem_cons_zero,List.setIfInBounds_toArray,List.set_cons_zero,List.set_cons_succ]
  refine anyI_tail (by kernel_rfl) ?_
  try simp only [List.drop_succ_cons,List.drop_zero]
  clear R
  go_wp2_with fail
  refine NoPanic.normal ?_
  exact HK.out _ _ _ _ _ _ _ _ _ _ _ _ _ _ _ _ _ _ _ _ _ _ _ _ _ _ _ _ _ _ _ _ wt B3.out
end Go.Proofs.YtenkkdnepmoihaaGreatDoor
end
