/- Texts put together: UpdateCrashT, UpdateCrashLaw. -/
import Derived.Test.YtenkkdnepmoihaaGreatDoorUcbr
import Derived.Test.YtenkkdnepmoihaaGreatDoorUcbo
section
set_option maxRecDepth 20000
set_option linter.unusedVariables false
set_option linter.unusedSimpArgs false
namespace Go.Proofs.YtenkkdnepmoihaaGreatDoor
open Go.RowKit
set_option maxRecDepth 100000 in
set_option maxHeartbeats 3200000 in
theorem ucIb {W0:World} {n l c pn xz:Int} {D F W s b gb gl gn cn b1 o1 c1 b2 o2 c2:Nat} {lv:List Bool} {curn:Array Value} {ya wa:List (List UInt8)} {x:List UInt8} {dn:Bool} {H:BH} {N:Bch} {k:Nat} {w:World} (u0 u1 u4 u5 u6 u7 u8 u9 u10 u11 u12 u13 u14 u15 u16 u17 u18 u19 u20 u22 u23 u24 u25 u27 u29 u30 u31 u32 u33 u34 u35 u36 u37 u38 u39 u40 u41 u42 u43 u44 u45 u46 u47 u48 u49 u50 u51 u52 u53 u54 u55 u56 u57 u58 u59 u60 u61 u62 u63 u64 u65 u66 u67 u68 u69 u70 u71 u72 u73 u74 u75 u76 u77 u78 u79 u80 u81 u82 u83 u84 u85 u86 u87 u88 u89 u90 u91 u92 u93 u94 u95 u96 u97 u98 u99 u100 u101 u102 u103 u104 u105 u106 u107 u108 u109 u110 u111 u112 u113 u114 u115 u116 u117 u118 u119 u120 u121 u122 u123 u124 u125 u126 u127 u128 u129 u130 u131 u132 u133 u134 u135 u136 u137 u138 u139 u140 u141 u142 u143 u144 u145 u146 u147 u148 u149 u150 u151 u152 u153 u154 u155 u156 u157 u158 u159 u160 u161 u162 u163 u164 u165 u166 u167 u168 u169 u170 u174 u175 u176 u177 u178 u179 u180 u181 u182 u183 u184 u185 u186 u187 u188 u189 u190 u191 u192 u193 u194 u195 u196 u197 u198 u199 u200 u201 u202 u203 u204 u205 u206 u207 u208 u209 u210 u211 u212:Value) (K:Act→World→Prop) (Q0:Exit→Act→World→Prop) (gr:Gr n l c (s:Int) D F W) (hcur:∀ k,k < W→curn[k]?=some (.int .i64 (plN l (D:Int) c (s:Int) (k:Int)))) (hxz:(-9223372036854775808 ≤ xz∧xz ≤ 9223372036854775807)) (hxe:sectorB xz=x) (hya:ya.length=W) (hwa:wa.length=W) (hy32:∀ y ∈ ya,y.length=32) (hw32:∀ y ∈ wa,y.length=32) (hcd:∀ k,k < W→((plN l (D:Int) c (s:Int) (k:Int)) ≠ pn∧ya.getD k []=wa.getD k [])∨((plN l (D:Int) c (s:Int) (k:Int))=pn∧ya.getD k []=x)∨((plN l (D:Int) c (s:Int) (k:Int))=pn∧ya.getD k []=wa.getD k []∧dn=true)) (hI:(k ≤ W∧KS W0 w b H N ((gn,Obj.cells curn 3 (0,0))::[(gl,Obj.cells (lv.map Value.bool).toArray 4 (0,0)),(gb,Obj.cells #[.int .i64 l,.int .i64 (D:Int),.int .i64 c] 24 (0,0))]) [(some ⟨b1,o1,none⟩,ya),(some ⟨b2,o2,none⟩,wa)] []))
    (hK:∀ (v14 v29 v30 v174 v175 v176 v177 v178 v179 v180 v181 v182 v183 v184 v185 v186 v187 v188 v189 v190 v191 v192 v193 v194 v195 v196 v197 v198 v199 v200 v201 v202 v203 v204 v205 v206 v207 v208 v209 v210 v211:Value)  (V:World),((k + 1) ≤ W∧KS W0 V b H N ((gn,Obj.cells curn 3 (0,0))::[(gl,Obj.cells (lv.map Value.bool).toArray 4 (0,0)),(gb,Obj.cells #[.int .i64 l,.int .i64 (D:Int),.int .i64 c] 24 (0,0))]) [(some ⟨b1,o1,none⟩,ya),(some ⟨b2,o2,none⟩,wa)] [])→W - (k + 1) < W - k→K ⟨List.toArray (u0::u1::(.int .i64 pn)::(.int .i64 xz)::u4::u5::u6::u7::u8::u9::u10::u11::u12::u13::v14::u15::u16::u17::u18::u19::u20::(.bool dn)::u22::u23::u24::u25::(.slice (some ⟨b1,o1,none⟩) W c1)::u27::(.slice (some ⟨b2,o2,none⟩) W c2)::v29::v30::u31::u32::u33::u34::u35::u36::u37::u38::u39::u40::u41::u42::u43::u44::u45::u46::u47::u48::u49::u50::u51::u52::u53::u54::u55::u56::u57::u58::u59::u60::u61::u62::u63::u64::u65::u66::u67::u68::u69::u70::u71::u72::u73::u74::u75::u76::u77::u78::u79::u80::u81::u82::u83::u84::u85::u86::u87::u88::u89::u90::u91::u92::u93::u94::u95::u96::u97::u98::u99::u100::u101::u102::u103::u104::u105::u106::u107::u108::u109::u110::u111::u112::u113::u114::u115::u116::u117::u118::u119::u120::u121::u122::u123::u124::u125::u126::u127::u128::u129::u130::u131::u132::u133::u134::u135::u136::u137::u138::u139::u140::u141::u142::u143::u144::u145::u146::u147::u148::u149::u150::u151::u152::u153::u154::u155::u156::u157::u158::u159::u160::u161::u162::u163::u164::u165::u166::u167::u168::u169::u170::(.slice (some ⟨gn,0,none⟩) W cn)::(.int .i64 (W:Int))::(.int .i64 (((k + 1):Nat):Int))::v174::v175::v176::v177::v178::v179::v180::v181::v182::v183::v184::v185::v186::v187::v188::v189::v190::v191::v192::v193::v194::v195::v196::v197::v198::v199::v200::v201::v202::v203::v204::v205::v206::v207::v208::v209::v210::v211::u212::[]),[]⟩ V)
    (hX:∀ (v14 v29 v30 v174 v175 v176 v177 v178 v179 v180 v181 v182 v183 v184 v185 v186 v187 v188 v189 v190 v191 v192 v193 v194 v195 v196 v197 v198 v199 v200 v201 v202 v203 v204 v205 v206 v207 v208 v209 v210 v211:Value),(k=W)→Q0 (.exit 2) ⟨List.toArray (u0::u1::(.int .i64 pn)::(.int .i64 xz)::u4::u5::u6::u7::u8::u9::u10::u11::u12::u13::v14::u15::u16::u17::u18::u19::u20::(.bool dn)::u22::u23::u24::u25::(.slice (some ⟨b1,o1,none⟩) W c1)::u27::(.slice (some ⟨b2,o2,none⟩) W c2)::v29::v30::u31::u32::u33::u34::u35::u36::u37::u38::u39::u40::u41::u42::u43::u44::u45::u46::u47::u48::u49::u50::u51::u52::u53::u54::u55::u56::u57::u58::u59::u60::u61::u62::u63::u64::u65::u66::u67::u68::u69::u70::u71::u72::u73::u74::u75::u76::u77::u78::u79::u80::u81::u82::u83::u84::u85::u86::u87::u88::u89::u90::u91::u92::u93::u94::u95::u96::u97::u98::u99::u100::u101::u102::u103::u104::u105::u106::u107::u108::u109::u110::u111::u112::u113::u114::u115::u116::u117::u118::u119::u120::u121::u122::u123::u124::u125::u126::u127::u128::u129::u130::u131::u132::u133::u134::u135::u136::u137::u138::u139::u140::u141::u142::u143::u144::u145::u146::u147::u148::u149::u150::u151::u152::u153::u154::u155::u156::u157::u158::u159::u160::u161::u162::u163::u164::u165::u166::u167::u168::u169::u170::(.slice (some ⟨gn,0,none⟩) W cn)::(.int .i64 (W:Int))::(.int .i64 ((k:Nat):Int))::v174::v175::v176::v177::v178::v179::v180::v181::v182::v183::v184::v185::v186::v187::v188::v189::v190::v191::v192::v193::v194::v195::v196::v197::v198::v199::v200::v201::v202::v203::v204::v205::v206::v207::v208::v209::v210::v211::u212::[]),[]⟩ w) :
    Code.wp Tryz.prog (sub [1,1,1,1,1,1,1,1,1,1,1,1,1,1,1,1,1,1,0,1,0,0,1,0,0,1,1,1,1,0,0] codeUC) (Exit.then K Q0) ⟨List.toArray (u0::u1::(.int .i64 pn)::(.int .i64 xz)::u4::u5::u6::u7::u8::u9::u10::u11::u12::u13::u14::u15::u16::u17::u18::u19::u20::(.bool dn)::u22::u23::u24::u25::(.slice (some ⟨b1,o1,none⟩) W c1)::u27::(.slice (some ⟨b2,o2,none⟩) W c2)::u29::u30::u31::u32::u33::u34::u35::u36::u37::u38::u39::u40::u41::u42::u43::u44::u45::u46::u47::u48::u49::u50::u51::u52::u53::u54::u55::u56::u57::u58::u59::u60::u61::u62::u63::u64::u65::u66::u67::u68::u69::u70::u71::u72::u73::u74::u75::u76::u77::u78::u79::u80::u81::u82::u83::u84::u85::u86::u87::u88::u89::u90::u91::u92::u93::u94::u95::u96::u97::u98::u99::u100::u101::u102::u103::u104::u105::u106::u107::u108::u109::u110::u111::u112::u113::u114::u115::u116::u117::u118::u119::u120::u121::u122::u123::u124::u125::u126::u127::u128::u129::u130::u131::u132::u133::u134::u135::u136::u137::u138::u139::u140::u141::u142::u143::u144::u145::u146::u147::u148::u149::u150::u151::u152::u153::u154::u155::u156::u157::u158::u159::u160::u161::u162::u163::u164::u165::u166::u167::u168::u169::u170::(.slice (some ⟨gn,0,none⟩) W cn)::(.int .i64 (W:Int))::(.int .i64 ((k:Nat):Int))::u174::u175::u176::u177::u178::u179::u180::u181::u182::u183::u184::u185::u186::u187::u188::u189::u190::u191::u192::u193::u194::u195::u196::u197::u198::u199::u200::u201::u202::u203::u204::u205::u206::u207::u208::u209::u210::u211::u212::[]),[]⟩ w:=by
 have HK:=Lib.hid hK
 have HX:=Lib.hid hX
 clear hK hX
 conv=>arg 2;whnf
 obtain ⟨hkW,hk⟩:=hI
 have hd8:=gr.d8
 have hw7:=gr.w7
 by_cases hlt:k < W
 ·have i0:(0:Int) ≤ (k:Int):=by omega
  have i1:(k:Int) < (W:Int):=by omega
  have hc1:=(cell_of_row w gn k _ _ _ (hk.kx.kp (gn,Obj.cells curn 3 (0,0)) (by simp)).1).trans (hcur k hlt)
  have hcd1:=hcd k hlt
  obtain ⟨Ay,cy,z1,q1⟩:=(hk.rx (some ⟨b1,o1,none⟩,ya) (by simp)).cellAt (k:=k) (by show k < ya.length;omega)
  obtain ⟨Aw,cw,z2,q2⟩:=(hk.rx (some ⟨b2,o2,none⟩,wa) (by simp)).cellAt (k:=k) (by show k < wa.length;omega)
  dsimp only at z1 q1 z2 q2
  have h1:(ya.getD k []).length=32:=mem_getD hy32 (by omega)
  have h2:(wa.getD k []).length=32:=mem_getD hw32 (by omega)
  rw [h1] at z1
  rw [h2] at z2
  have r1:=q1.rdb
  have r2:=q2.rdb
  generalize (plN l (D:Int) c (s:Int) (k:Int))=m at hc1 hcd1
  generalize ya.getD k []=y at h1 hcd1 r1
  generalize wa.getD k []=wv at h2 hcd1 r2
  have Hk:=Lib.hid hk
  have Hcd:=Lib.hid hcd1
  have HZ1:=Lib.hid z1
  have HZ2:=Lib.hid z2
  clear hk HX hcur hcd q1 q2 hcd1 z1 z2 hya hwa hy32 hw32 gr
  go_upto_region 39 with fail
  refine ucG _ _ _ _ _ _ _ _ _ _ _ _ _ _ _ _ _ _ _ _ _ _ _ _ _ _ _ _ _ _ _ _ _ _ _ _ _ _ _ _ _ _ _ _ _ _ _ _ _ _ _ _ _ _ _ _ _ _ _ _ _ _ _ _ _ _ _ _ _ _ _ _ _ _ _ _ _ _ _ _ _ _ _ _ _ _ _ _ _ _ _ _ _ _ _ _ _ _ _ _ _ _ _ _ _ _ _ _ _ _ _ _ _ _ _ _ _ _ _ _ _ _ _ _ _ _ _ _ _ _ _ _ _ _ _ _ _ _ _ _ _ _ _ _ _ _ _ _ _ _ _ _ _ _ _ _ _ _ _ _ _ _ _ _ _ _ _ _ _ _ _ _ _ _ _ _ _ _ _ _ _ _ _ _ _ _ _ _ _ _ _ _ _ _ _ _ _ _ _ _ _ _ _ _ _ _ _ _ hlt (by omega) hxz hxe HZ1.out HZ2.out r1 r2 h1 h2 Hcd.out (fun v178 v179 v180 v181 v182 v183 v184 v185 v186 v187 v188 v189 v190 v191 v192 v193 v194 v195 v196 v197 v198 v199 v200 v201 v202 v203 v204 v205 v206 v207 v208 v209 V5 hb5=>?_)
  have K5:=Lib.hid (Hk.out.below hb5)
  clear hb5 r1 r2 HZ1 HZ2 Hcd
  go_wp2_with fail
  exact HK.out _ _ _ _ _ _ _ _ _ _ _ _ _ _ _ _ _ _ _ _ _ _ _ _ _ _ _ _ _ _ _ _ _ _ _ _ _ _ _ _ _ _ ⟨by omega,K5.out⟩ (by omega)
 ·have i1:¬ (k:Int) < (W:Int):=by omega
  have Hin:=Lib.hid (show k=W by omega)
  clear HK hk
  go_wp2_with fail
  exact HX.out _ _ _ _ _ _ _ _ _ _ _ _ _ _ _ _ _ _ _ _ _ _ _ _ _ _ _ _ _ _ _ _ _ _ _ _ _ _ _ _ _ Hin.out
set_option maxRecDepth 100000 in
set_option maxHeartbeats 3200000 in
theorem ucI {W0:World} {n l c pn xz:Int} {D F W s b gb gl gn cn b1 o1 c1 b2 o2 c2:Nat} {lv:List Bool} {curn:Array Value} {ya wa:List (List UInt8)} {x:List UInt8} {dn:Bool} {H:BH} {N:Bch}  {w:World} (u0 u1 u4 u5 u6 u7 u8 u9 u10 u11 u12 u13 u14 u15 u16 u17 u18 u19 u20 u22 u23 u24 u25 u27 u29 u30 u31 u32 u33 u34 u35 u36 u37 u38 u39 u40 u41 u42 u43 u44 u45 u46 u47 u48 u49 u50 u51 u52 u53 u54 u55 u56 u57 u58 u59 u60 u61 u62 u63 u64 u65 u66 u67 u68 u69 u70 u71 u72 u73 u74 u75 u76 u77 u78 u79 u80 u81 u82 u83 u84 u85 u86 u87 u88 u89 u90 u91 u92 u93 u94 u95 u96 u97 u98 u99 u100 u101 u102 u103 u104 u105 u106 u107 u108 u109 u110 u111 u112 u113 u114 u115 u116 u117 u118 u119 u120 u121 u122 u123 u124 u125 u126 u127 u128 u129 u130 u131 u132 u133 u134 u135 u136 u137 u138 u139 u140 u141 u142 u143 u144 u145 u146 u147 u148 u149 u150 u151 u152 u153 u154 u155 u156 u157 u158 u159 u160 u161 u162 u163 u164 u165 u166 u167 u168 u169 u170 u174 u175 u176 u177 u178 u179 u180 u181 u182 u183 u184 u185 u186 u187 u188 u189 u190 u191 u192 u193 u194 u195 u196 u197 u198 u199 u200 u201 u202 u203 u204 u205 u206 u207 u208 u209 u210 u211 u212:Value) (Q:Exit→Act→World→Prop) (gr:Gr n l c (s:Int) D F W) (hcur:∀ k,k < W→curn[k]?=some (.int .i64 (plN l (D:Int) c (s:Int) (k:Int)))) (hxz:(-9223372036854775808 ≤ xz∧xz ≤ 9223372036854775807)) (hxe:sectorB xz=x) (hya:ya.length=W) (hwa:wa.length=W) (hy32:∀ y ∈ ya,y.length=32) (hw32:∀ y ∈ wa,y.length=32) (hcd:∀ k,k < W→((plN l (D:Int) c (s:Int) (k:Int)) ≠ pn∧ya.getD k []=wa.getD k [])∨((plN l (D:Int) c (s:Int) (k:Int))=pn∧ya.getD k []=x)∨((plN l (D:Int) c (s:Int) (k:Int))=pn∧ya.getD k []=wa.getD k []∧dn=true)) (hI:(0 ≤ W∧KS W0 w b H N ((gn,Obj.cells curn 3 (0,0))::[(gl,Obj.cells (lv.map Value.bool).toArray 4 (0,0)),(gb,Obj.cells #[.int .i64 l,.int .i64 (D:Int),.int .i64 c] 24 (0,0))]) [(some ⟨b1,o1,none⟩,ya),(some ⟨b2,o2,none⟩,wa)] []))
    (hX:∀ (v14 v29 v30 v174 v175 v176 v177 v178 v179 v180 v181 v182 v183 v184 v185 v186 v187 v188 v189 v190 v191 v192 v193 v194 v195 v196 v197 v198 v199 v200 v201 v202 v203 v204 v205 v206 v207 v208 v209 v210 v211:Value) (k:Nat) (V:World),(k ≤ W∧KS W0 V b H N ((gn,Obj.cells curn 3 (0,0))::[(gl,Obj.cells (lv.map Value.bool).toArray 4 (0,0)),(gb,Obj.cells #[.int .i64 l,.int .i64 (D:Int),.int .i64 c] 24 (0,0))]) [(some ⟨b1,o1,none⟩,ya),(some ⟨b2,o2,none⟩,wa)] [])→(k=W)→Q (.exit 2) ⟨List.toArray (u0::u1::(.int .i64 pn)::(.int .i64 xz)::u4::u5::u6::u7::u8::u9::u10::u11::u12::u13::v14::u15::u16::u17::u18::u19::u20::(.bool dn)::u22::u23::u24::u25::(.slice (some ⟨b1,o1,none⟩) W c1)::u27::(.slice (some ⟨b2,o2,none⟩) W c2)::v29::v30::u31::u32::u33::u34::u35::u36::u37::u38::u39::u40::u41::u42::u43::u44::u45::u46::u47::u48::u49::u50::u51::u52::u53::u54::u55::u56::u57::u58::u59::u60::u61::u62::u63::u64::u65::u66::u67::u68::u69::u70::u71::u72::u73::u74::u75::u76::u77::u78::u79::u80::u81::u82::u83::u84::u85::u86::u87::u88::u89::u90::u91::u92::u93::u94::u95::u96::u97::u98::u99::u100::u101::u102::u103::u104::u105::u106::u107::u108::u109::u110::u111::u112::u113::u114::u115::u116::u117::u118::u119::u120::u121::u122::u123::u124::u125::u126::u127::u128::u129::u130::u131::u132::u133::u134::u135::u136::u137::u138::u139::u140::u141::u142::u143::u144::u145::u146::u147::u148::u149::u150::u151::u152::u153::u154::u155::u156::u157::u158::u159::u160::u161::u162::u163::u164::u165::u166::u167::u168::u169::u170::(.slice (some ⟨gn,0,none⟩) W cn)::(.int .i64 (W:Int))::(.int .i64 ((k:Nat):Int))::v174::v175::v176::v177::v178::v179::v180::v181::v182::v183::v184::v185::v186::v187::v188::v189::v190::v191::v192::v193::v194::v195::v196::v197::v198::v199::v200::v201::v202::v203::v204::v205::v206::v207::v208::v209::v210::v211::u212::[]),[]⟩ V) :
    Code.wp Tryz.prog (.loop (sub [1,1,1,1,1,1,1,1,1,1,1,1,1,1,1,1,1,1,0,1,0,0,1,0,0,1,1,1,1,0,0] codeUC)) Q ⟨List.toArray (u0::u1::(.int .i64 pn)::(.int .i64 xz)::u4::u5::u6::u7::u8::u9::u10::u11::u12::u13::u14::u15::u16::u17::u18::u19::u20::(.bool dn)::u22::u23::u24::u25::(.slice (some ⟨b1,o1,none⟩) W c1)::u27::(.slice (some ⟨b2,o2,none⟩) W c2)::u29::u30::u31::u32::u33::u34::u35::u36::u37::u38::u39::u40::u41::u42::u43::u44::u45::u46::u47::u48::u49::u50::u51::u52::u53::u54::u55::u56::u57::u58::u59::u60::u61::u62::u63::u64::u65::u66::u67::u68::u69::u70::u71::u72::u73::u74::u75::u76::u77::u78::u79::u80::u81::u82::u83::u84::u85::u86::u87::u88::u89::u90::u91::u92::u93::u94::u95::u96::u97::u98::u99::u100::u101::u102::u103::u104::u105::u106::u107::u108::u109::u110::u111::u112::u113::u114::u115::u116::u117::u118::u119::u120::u121::u122::u123::u124::u125::u126::u127::u128::u129::u130::u131::u132::u133::u134::u135::u136::u137::u138::u139::u140::u141::u142::u143::u144::u145::u146::u147::u148::u149::u150::u151::u152::u153::u154::u155::u156::u157::u158::u159::u160::u161::u162::u163::u164::u165::u166::u167::u168::u169::u170::(.slice (some ⟨gn,0,none⟩) W cn)::(.int .i64 (W:Int))::(.int .i64 ((0:Nat):Int))::u174::u175::u176::u177::u178::u179::u180::u181::u182::u183::u184::u185::u186::u187::u188::u189::u190::u191::u192::u193::u194::u195::u196::u197::u198::u199::u200::u201::u202::u203::u204::u205::u206::u207::u208::u209::u210::u211::u212::[]),[]⟩ w:=by
 refine wp_loop_ghost (fun gk a V=>∀ C:Prop,(∀ (u14 u29 u30 u174 u175 u176 u177 u178 u179 u180 u181 u182 u183 u184 u185 u186 u187 u188 u189 u190 u191 u192 u193 u194 u195 u196 u197 u198 u199 u200 u201 u202 u203 u204 u205 u206 u207 u208 u209 u210 u211:Value) (k:Nat),gk=W - k→(k ≤ W∧KS W0 V b H N ((gn,Obj.cells curn 3 (0,0))::[(gl,Obj.cells (lv.map Value.bool).toArray 4 (0,0)),(gb,Obj.cells #[.int .i64 l,.int .i64 (D:Int),.int .i64 c] 24 (0,0))]) [(some ⟨b1,o1,none⟩,ya),(some ⟨b2,o2,none⟩,wa)] [])→a=⟨List.toArray (u0::u1::(.int .i64 pn)::(.int .i64 xz)::u4::u5::u6::u7::u8::u9::u10::u11::u12::u13::u14::u15::u16::u17::u18::u19::u20::(.bool dn)::u22::u23::u24::u25::(.slice (some ⟨b1,o1,none⟩) W c1)::u27::(.slice (some ⟨b2,o2,none⟩) W c2)::u29::u30::u31::u32::u33::u34::u35::u36::u37::u38::u39::u40::u41::u42::u43::u44::u45::u46::u47::u48::u49::u50::u51::u52::u53::u54::u55::u56::u57::u58::u59::u60::u61::u62::u63::u64::u65::u66::u67::u68::u69::u70::u71::u72::u73::u74::u75::u76::u77::u78::u79::u80::u81::u82::u83::u84::u85::u86::u87::u88::u89::u90::u91::u92::u93::u94::u95::u96::u97::u98::u99::u100::u101::u102::u103::u104::u105::u106::u107::u108::u109::u110::u111::u112::u113::u114::u115::u116::u117::u118::u119::u120::u121::u122::u123::u124::u125::u126::u127::u128::u129::u130::u131::u132::u133::u134::u135::u136::u137::u138::u139::u140::u141::u142::u143::u144::u145::u146::u147::u148::u149::u150::u151::u152::u153::u154::u155::u156::u157::u158::u159::u160::u161::u162::u163::u164::u165::u166::u167::u168::u169::u170::(.slice (some ⟨gn,0,none⟩) W cn)::(.int .i64 (W:Int))::(.int .i64 ((k:Nat):Int))::u174::u175::u176::u177::u178::u179::u180::u181::u182::u183::u184::u185::u186::u187::u188::u189::u190::u191::u192::u193::u194::u195::u196::u197::u198::u199::u200::u201::u202::u203::u204::u205::u206::u207::u208::u209::u210::u211::u212::[]),[]⟩→C)→C) (W - 0) ?_ ?_
 ·intro C hC
  exact hC _ _ _ _ _ _ _ _ _ _ _ _ _ _ _ _ _ _ _ _ _ _ _ _ _ _ _ _ _ _ _ _ _ _ _ _ _ _ _ _ _ (0) rfl hI rfl
 ·intro gk a V hI'
  refine hI' _ ?_
  intro u14 u29 u30 u174 u175 u176 u177 u178 u179 u180 u181 u182 u183 u184 u185 u186 u187 u188 u189 u190 u191 u192 u193 u194 u195 u196 u197 u198 u199 u200 u201 u202 u203 u204 u205 u206 u207 u208 u209 u210 u211 k hk hinv ha
  subst ha
  subst hk
  refine ucIb _ _ _ _ _ _ _ _ _ _ _ _ _ _ _ _ _ _ _ _ _ _ _ _ _ _ _ _ _ _ _ _ _ _ _ _ _ _ _ _ _ _ _ _ _ _ _ _ _ _ _ _ _ _ _ _ _ _ _ _ _ _ _ _ _ _ _ _ _ _ _ _ _ _ _ _ _ _ _ _ _ _ _ _ _ _ _ _ _ _ _ _ _ _ _ _ _ _ _ _ _ _ _ _ _ _ _ _ _ _ _ _ _ _ _ _ _ _ _ _ _ _ _ _ _ _ _ _ _ _ _ _ _ _ _ _ _ _ _ _ _ _ _ _ _ _ _ _ _ _ _ _ _ _ _ _ _ _ _ _ _ _ _ _ _ _ _ _ _ _ _ _ _ _ _ _ _ _ _ _ _ _ _ _ _ _ _ _ _ _ _ _ _ _ _ _ _ _ _ _ _ _ _ _ _ _ _ gr hcur hxz hxe hya hwa hy32 hw32 hcd hinv (fun v14 v29 v30 v174 v175 v176 v177 v178 v179 v180 v181 v182 v183 v184 v185 v186 v187 v188 v189 v190 v191 v192 v193 v194 v195 v196 v197 v198 v199 v200 v201 v202 v203 v204 v205 v206 v207 v208 v209 v210 v211  V2 h2 hm=>?_) (fun v14 v29 v30 v174 v175 v176 v177 v178 v179 v180 v181 v182 v183 v184 v185 v186 v187 v188 v189 v190 v191 v192 v193 v194 v195 v196 v197 v198 v199 v200 v201 v202 v203 v204 v205 v206 v207 v208 v209 v210 v211 hx=>hX v14 v29 v30 v174 v175 v176 v177 v178 v179 v180 v181 v182 v183 v184 v185 v186 v187 v188 v189 v190 v191 v192 v193 v194 v195 v196 v197 v198 v199 v200 v201 v202 v203 v204 v205 v206 v207 v208 v209 v210 v211 k V hinv hx)
  refine ⟨_,hm,fun C hC=>?_⟩
  exact hC v14 v29 v30 v174 v175 v176 v177 v178 v179 v180 v181 v182 v183 v184 v185 v186 v187 v188 v189 v190 v191 v192 v193 v194 v195 v196 v197 v198 v199 v200 v201 v202 v203 v204 v205 v206 v207 v208 v209 v210 v211 ((k + 1)) rfl h2 rfl
set_option maxRecDepth 100000 in
set_option maxHeartbeats 3200000 in
theorem ucOb {W0:World} {n l c r pn xz:Int} {D F W ρ kk b gb gl cz:Nat} {A:Option Addr} {zs:List Int} {lv:List Bool} {dsF:Nat→List (List UInt8)} {x:List UInt8} {dn:Bool} {H:BH} {N:Bch} {s:Nat} {w:World} (u0 u4 u5 u6 u7 u8 u9 u10 u11 u12 u13 u14 u18 u19 u20 u22 u23 u24 u26 u27 u28 u29 u30 u31 u32 u33 u34 u35 u36 u37 u38 u39 u40 u41 u42 u43 u44 u45 u46 u47 u48 u49 u50 u51 u52 u53 u54 u55 u56 u57 u58 u59 u60 u61 u62 u63 u64 u65 u66 u67 u68 u69 u70 u71 u72 u73 u74 u75 u76 u77 u78 u79 u80 u81 u82 u83 u84 u85 u86 u87 u88 u89 u90 u91 u92 u93 u94 u95 u96 u97 u98 u99 u100 u101 u102 u103 u104 u105 u106 u107 u108 u109 u110 u111 u112 u113 u114 u115 u116 u117 u118 u119 u120 u121 u122 u123 u124 u125 u126 u127 u128 u129 u130 u131 u132 u133 u134 u135 u136 u137 u138 u139 u140 u141 u142 u143 u144 u145 u146 u147 u148 u149 u150 u151 u152 u153 u154 u155 u156 u157 u158 u159 u160 u161 u162 u163 u164 u165 u166 u167 u168 u169 u170 u171 u172 u173 u174 u175 u176 u177 u178 u179 u180 u181 u182 u183 u184 u185 u186 u187 u188 u189 u190 u191 u192 u193 u194 u195 u196 u197 u198 u199 u200 u201 u202 u203 u204 u205 u206 u207 u208 u209 u210 u211 u212:Value) (K:Act→World→Prop) (Q0:Exit→Act→World→Prop) (gr:Gr n l c r D F W) (hcz:zs.length ≤ cz) (hz:RdZ W0 W0.heap.size A zs) (hll:lv.length=D) (ha:Arr N D lv l c W dsF) (hcnt:((cntB D (fun i=>!srvD N lv i):Nat):Int) ≤ l - 4) (hρ:ρ < 16) (hkk:kk < W) (hpn:plN l (D:Int) c (ρ:Int) (kk:Int)=pn) (hxz:(-9223372036854775808 ≤ xz∧xz ≤ 9223372036854775807)) (hxe:sectorB xz=x) (hds:dsF=dsSet (fun t=>datL zs t W) ρ kk x∨(dsF=(fun t=>datL zs t W)∧dn=true)) (hI:(s ≤ 16∧KS W0 w b H N [(gl,Obj.cells (lv.map Value.bool).toArray 4 (0,0)),(gb,Obj.cells #[.int .i64 l,.int .i64 (D:Int),.int .i64 c] 24 (0,0))] [] []))
    (hK:∀ (v14 v26 v27 v28 v29 v30 v144 v145 v146 v147 v148 v149 v150 v151 v152 v153 v154 v155 v156 v157 v158 v159 v160 v161 v162 v163 v164 v165 v166 v167 v168 v169 v170 v171 v172 v173 v174 v175 v176 v177 v178 v179 v180 v181 v182 v183 v184 v185 v186 v187 v188 v189 v190 v191 v192 v193 v194 v195 v196 v197 v198 v199 v200 v201 v202 v203 v204 v205 v206 v207 v208 v209 v210 v211:Value)  (V:World),((s + 1) ≤ 16∧KS W0 V b H N [(gl,Obj.cells (lv.map Value.bool).toArray 4 (0,0)),(gb,Obj.cells #[.int .i64 l,.int .i64 (D:Int),.int .i64 c] 24 (0,0))] [] [])→16 - (s + 1) < 16 - s→K ⟨List.toArray (u0::(.slice A zs.length cz)::(.int .i64 pn)::(.int .i64 xz)::u4::u5::u6::u7::u8::u9::u10::u11::u12::u13::v14::(.pointer (some ⟨gb,0,none⟩))::(.pointer (some ⟨b,0,none⟩))::(.slice (some ⟨gl,0,none⟩) D D)::u18::u19::u20::(.bool dn)::u22::u23::u24::(.int .i64 (((s + 1):Nat):Int))::v26::v27::v28::v29::v30::u31::u32::u33::u34::u35::u36::u37::u38::u39::u40::u41::u42::u43::u44::u45::u46::u47::u48::u49::u50::u51::u52::u53::u54::u55::u56::u57::u58::u59::u60::u61::u62::u63::u64::u65::u66::u67::u68::u69::u70::u71::u72::u73::u74::u75::u76::u77::u78::u79::u80::u81::u82::u83::u84::u85::u86::u87::u88::u89::u90::u91::u92::u93::u94::u95::u96::u97::u98::u99::u100::u101::u102::u103::u104::u105::u106::u107::u108::u109::u110::u111::u112::u113::u114::u115::u116::u117::u118::u119::u120::u121::u122::u123::u124::u125::u126::u127::u128::u129::u130::u131::u132::u133::u134::u135::u136::u137::u138::u139::u140::u141::u142::u143::v144::v145::v146::v147::v148::v149::v150::v151::v152::v153::v154::v155::v156::v157::v158::v159::v160::v161::v162::v163::v164::v165::v166::v167::v168::v169::v170::v171::v172::v173::v174::v175::v176::v177::v178::v179::v180::v181::v182::v183::v184::v185::v186::v187::v188::v189::v190::v191::v192::v193::v194::v195::v196::v197::v198::v199::v200::v201::v202::v203::v204::v205::v206::v207::v208::v209::v210::v211::u212::[]),[]⟩ V)
    (hX:∀ (v14 v26 v27 v28 v29 v30 v144 v145 v146 v147 v148 v149 v150 v151 v152 v153 v154 v155 v156 v157 v158 v159 v160 v161 v162 v163 v164 v165 v166 v167 v168 v169 v170 v171 v172 v173 v174 v175 v176 v177 v178 v179 v180 v181 v182 v183 v184 v185 v186 v187 v188 v189 v190 v191 v192 v193 v194 v195 v196 v197 v198 v199 v200 v201 v202 v203 v204 v205 v206 v207 v208 v209 v210 v211:Value),(s=16)→Q0 (.exit 0) ⟨List.toArray (u0::(.slice A zs.length cz)::(.int .i64 pn)::(.int .i64 xz)::u4::u5::u6::u7::u8::u9::u10::u11::u12::u13::v14::(.pointer (some ⟨gb,0,none⟩))::(.pointer (some ⟨b,0,none⟩))::(.slice (some ⟨gl,0,none⟩) D D)::u18::u19::u20::(.bool dn)::u22::u23::u24::(.int .i64 ((s:Nat):Int))::v26::v27::v28::v29::v30::u31::u32::u33::u34::u35::u36::u37::u38::u39::u40::u41::u42::u43::u44::u45::u46::u47::u48::u49::u50::u51::u52::u53::u54::u55::u56::u57::u58::u59::u60::u61::u62::u63::u64::u65::u66::u67::u68::u69::u70::u71::u72::u73::u74::u75::u76::u77::u78::u79::u80::u81::u82::u83::u84::u85::u86::u87::u88::u89::u90::u91::u92::u93::u94::u95::u96::u97::u98::u99::u100::u101::u102::u103::u104::u105::u106::u107::u108::u109::u110::u111::u112::u113::u114::u115::u116::u117::u118::u119::u120::u121::u122::u123::u124::u125::u126::u127::u128::u129::u130::u131::u132::u133::u134::u135::u136::u137::u138::u139::u140::u141::u142::u143::v144::v145::v146::v147::v148::v149::v150::v151::v152::v153::v154::v155::v156::v157::v158::v159::v160::v161::v162::v163::v164::v165::v166::v167::v168::v169::v170::v171::v172::v173::v174::v175::v176::v177::v178::v179::v180::v181::v182::v183::v184::v185::v186::v187::v188::v189::v190::v191::v192::v193::v194::v195::v196::v197::v198::v199::v200::v201::v202::v203::v204::v205::v206::v207::v208::v209::v210::v211::u212::[]),[]⟩ w) :
    Code.wp Tryz.prog (sub [1,1,1,1,1,1,1,1,1,1,1,1,1,1,1,1,1,1,0,1,0,0] codeUC) (Exit.then K Q0) ⟨List.toArray (u0::(.slice A zs.length cz)::(.int .i64 pn)::(.int .i64 xz)::u4::u5::u6::u7::u8::u9::u10::u11::u12::u13::u14::(.pointer (some ⟨gb,0,none⟩))::(.pointer (some ⟨b,0,none⟩))::(.slice (some ⟨gl,0,none⟩) D D)::u18::u19::u20::(.bool dn)::u22::u23::u24::(.int .i64 ((s:Nat):Int))::u26::u27::u28::u29::u30::u31::u32::u33::u34::u35::u36::u37::u38::u39::u40::u41::u42::u43::u44::u45::u46::u47::u48::u49::u50::u51::u52::u53::u54::u55::u56::u57::u58::u59::u60::u61::u62::u63::u64::u65::u66::u67::u68::u69::u70::u71::u72::u73::u74::u75::u76::u77::u78::u79::u80::u81::u82::u83::u84::u85::u86::u87::u88::u89::u90::u91::u92::u93::u94::u95::u96::u97::u98::u99::u100::u101::u102::u103::u104::u105::u106::u107::u108::u109::u110::u111::u112::u113::u114::u115::u116::u117::u118::u119::u120::u121::u122::u123::u124::u125::u126::u127::u128::u129::u130::u131::u132::u133::u134::u135::u136::u137::u138::u139::u140::u141::u142::u143::u144::u145::u146::u147::u148::u149::u150::u151::u152::u153::u154::u155::u156::u157::u158::u159::u160::u161::u162::u163::u164::u165::u166::u167::u168::u169::u170::u171::u172::u173::u174::u175::u176::u177::u178::u179::u180::u181::u182::u183::u184::u185::u186::u187::u188::u189::u190::u191::u192::u193::u194::u195::u196::u197::u198::u199::u200::u201::u202::u203::u204::u205::u206::u207::u208::u209::u210::u211::u212::[]),[]⟩ w:=by
 have HK:=Lib.hid hK
 have HX:=Lib.hid hX
 clear hK hX
 conv=>arg 2;whnf
 obtain ⟨hs,hk⟩:=hI
 have hd8:=gr.d8
 have hw7:=gr.w7
 have hw1:=gr.w1
 by_cases hlt:s < 16
 ·have i0:(0:Int) ≤ (s:Int):=by omega
  have i1:(s:Int) < 16:=by omega
  have L1:=gr.l64
  have L2:=gr.d64
  have L3:=gr.c64
  have EQ:=ha.ok gr hlt hcnt
  have CR:=ks_read hk lv (some ⟨gl,0,none⟩) D D hll.symm (hk.lv (g:=gl) (t:=4) (f:=(0,0)) (lv:=lv) (by simp) rfl (by omega)) l (D:Int) c (s:Int) L1 L2 L3 ⟨by omega,by omega⟩
  rw [EQ.1,EQ.2,ha.da.len] at CR
  replace CR:=Lib.hid CR
  have hdw:=dat_rows zs W
  have hcd:∀ k,k < W→(plN l (D:Int) c (s:Int) (k:Int) ≠ pn∧(dsF s).getD k []=(datL zs s W).getD k [])∨(plN l (D:Int) c (s:Int) (k:Int)=pn∧(dsF s).getD k []=x)∨(plN l (D:Int) c (s:Int) (k:Int)=pn∧(dsF s).getD k []=(datL zs s W).getD k []∧dn=true):=fun k hk=>by
   have key:plN l (D:Int) c (s:Int) (k:Int)=pn→s=ρ∧k=kk:=fun e=>by
    obtain ⟨_,_,a1,a2⟩:=num_place (gr.at hlt) hk
    obtain ⟨_,_,b1,b2⟩:=num_place (gr.at hρ) hkk
    rw [e] at a1 a2
    rw [hpn] at b1 b2
    exact ⟨by rw [a1] at b1;omega,by rw [← a2,← b2]⟩
   rcases hds with rfl | ⟨rfl,hd⟩
   ·by_cases e:plN l (D:Int) c (s:Int) (k:Int)=pn
    ·obtain ⟨rfl,rfl⟩:=key e
     exact .inr (.inl ⟨e,by rw [dsSet_get hdw hkk,if_pos ⟨rfl,rfl⟩]⟩)
    ·exact .inl ⟨e,by rw [dsSet_get hdw hkk,if_neg (fun q=>e (by rw [q.1,q.2];exact hpn))]⟩
   ·by_cases e:plN l (D:Int) c (s:Int) (k:Int)=pn
    ·exact .inr (.inr ⟨e,rfl,hd⟩)
    ·exact .inl ⟨e,rfl⟩
  have Hcd:=Lib.hid hcd
  have hya:=ha.da.len s
  have hy32:=ha.da.m s
  have hwl:=datL_len zs s W
  have grs:=gr.at hlt
  obtain ⟨g1,g2,g3⟩:=hk.gat (g:=gb) (l:=l) (d:=(D:Int)) (c:=c) (t:=24) (f:=(0,0)) (by simp)
  have e0:((W:Int) != (W:Int))=false:=bne_self_eq_false _
  have Hw32:=Lib.hid (show ∀ y ∈ datL zs s W,y.length=32 from datL_mem)
  have Hy32:=Lib.hid hy32
  generalize dsF s=ya at CR Hcd hya Hy32
  have Grs:=Lib.hid grs
  have Gr':=Lib.hid gr
  have Hz:=Lib.hid hz
  clear HX hk ha hcnt hds hcd hdw EQ grs gr hz hy32
  go_wp2_with fail
  (with_reducible refine CR.out.mono ?_);rintro e w1 ⟨A1,c1,rfl,k1,hb1⟩
  obtain ⟨b1,o1,rfl⟩:∃ b1 o1,A1=some ⟨b1,o1,none⟩:=by
   obtain ⟨b',off,_,_,e,_,_⟩:=(k1.rx (A1,ya) (by simp)).at (k:=0) (by show 0 < ya.length;omega)
   exact ⟨b',off,e⟩
  have CDt:=Lib.hid (ks_data k1 Gr'.out s (by omega) zs.length cz rfl hcz Hz.out)
  obtain ⟨g4,g5,g6⟩:=k1.gat (g:=gb) (l:=l) (d:=(D:Int)) (c:=c) (t:=24) (f:=(0,0)) (by simp)
  clear k1 hb1 CR g1 g2 g3
  go_wp2_with fail
  (with_reducible refine CDt.out.mono ?_);rintro e w2 ⟨A2,c2,rfl,k2⟩
  obtain ⟨b2,o2,rfl⟩:∃ b2 o2,A2=some ⟨b2,o2,none⟩:=by
   obtain ⟨b',off,_,_,e,_,_⟩:=(k2.rx (A2,datL zs s W) (by simp)).at (k:=0) (by show 0 < (datL zs s W).length;omega)
   exact ⟨b',off,e⟩
  have CN:=Lib.hid (ks_nums k2 Grs.out)
  obtain ⟨g7,g8,g9⟩:=k2.gat (g:=gb) (l:=l) (d:=(D:Int)) (c:=c) (t:=24) (f:=(0,0)) (by simp)
  clear k2 CDt g4 g5 g6
  go_wp2_with fail
  (with_reducible refine CN.out.mono ?_);rintro e w3 ⟨gn,cn,curn,rfl,k3,hcur⟩
  have K3:=Lib.hid (k3.less (K':=(gn,Obj.cells curn 3 (0,0))::[(gl,Obj.cells (lv.map Value.bool).toArray 4 (0,0)),(gb,Obj.cells #[.int .i64 l,.int .i64 (D:Int),.int .i64 c] 24 (0,0))]) (R':=[(some ⟨b1,o1,none⟩,ya),(some ⟨b2,o2,none⟩,datL zs s W)]) (S':=[]) (fun _ h=>h) (fun p hp=>by simp only [List.mem_cons,List.not_mem_nil,or_false] at hp ⊢;rcases hp with h | h <;> simp [h]) (fun _ h=>h))
  have Hcur:=Lib.hid hcur
  clear k3 hcur CN g7 g8 g9
  go_upto_block 2 with fail
  refine wp_block ?_
  refine ucI _ _ _ _ _ _ _ _ _ _ _ _ _ _ _ _ _ _ _ _ _ _ _ _ _ _ _ _ _ _ _ _ _ _ _ _ _ _ _ _ _ _ _ _ _ _ _ _ _ _ _ _ _ _ _ _ _ _ _ _ _ _ _ _ _ _ _ _ _ _ _ _ _ _ _ _ _ _ _ _ _ _ _ _ _ _ _ _ _ _ _ _ _ _ _ _ _ _ _ _ _ _ _ _ _ _ _ _ _ _ _ _ _ _ _ _ _ _ _ _ _ _ _ _ _ _ _ _ _ _ _ _ _ _ _ _ _ _ _ _ _ _ _ _ _ _ _ _ _ _ _ _ _ _ _ _ _ _ _ _ _ _ _ _ _ _ _ _ _ _ _ _ _ _ _ _ _ _ _ _ _ _ _ _ _ _ _ _ _ _ _ _ _ _ _ _ _ _ _ _ _ _ _ _ _ _ Grs.out Hcur.out hxz hxe hya hwl Hy32.out Hw32.out Hcd.out ⟨Nat.zero_le _,K3.out⟩ (fun v14 v29 v30 v174 v175 v176 v177 v178 v179 v180 v181 v182 v183 v184 v185 v186 v187 v188 v189 v190 v191 v192 v193 v194 v195 v196 v197 v198 v199 v200 v201 v202 v203 v204 v205 v206 v207 v208 v209 v210 v211 k V4 hI hx=>?_)
  have K4:=Lib.hid (hI.2.less (K':=[(gl,Obj.cells (lv.map Value.bool).toArray 4 (0,0)),(gb,Obj.cells #[.int .i64 l,.int .i64 (D:Int),.int .i64 c] 24 (0,0))]) (R':=[]) (S':=[]) (fun p hp=>List.mem_cons_of_mem _ hp) (fun _ h=>absurd h (by simp)) (fun _ h=>h))
  clear hI hx K3 Hcur Hcd
  go_wp2_with fail
  exact HK.out _ _ _ _ _ _ _ _ _ _ _ _ _ _ _ _ _ _ _ _ _ _ _ _ _ _ _ _ _ _ _ _ _ _ _ _ _ _ _ _ _ _ _ _ _ _ _ _ _ _ _ _ _ _ _ _ _ _ _ _ _ _ _ _ _ _ _ _ _ _ _ _ _ _ _ ⟨by omega,K4.out⟩ (by omega)
 ·have i1:¬ (s:Int) < 16:=by omega
  have Hin:=Lib.hid (show s=16 by omega)
  clear HK hk
  go_wp2_with fail
  exact HX.out _ _ _ _ _ _ _ _ _ _ _ _ _ _ _ _ _ _ _ _ _ _ _ _ _ _ _ _ _ _ _ _ _ _ _ _ _ _ _ _ _ _ _ _ _ _ _ _ _ _ _ _ _ _ _ _ _ _ _ _ _ _ _ _ _ _ _ _ _ _ _ _ _ _ Hin.out
set_option maxRecDepth 100000 in
set_option maxHeartbeats 3200000 in
theorem ucO {W0:World} {n l c r pn xz:Int} {D F W ρ kk b gb gl cz:Nat} {A:Option Addr} {zs:List Int} {lv:List Bool} {dsF:Nat→List (List UInt8)} {x:List UInt8} {dn:Bool} {H:BH} {N:Bch}  {w:World} (u0 u4 u5 u6 u7 u8 u9 u10 u11 u12 u13 u14 u18 u19 u20 u22 u23 u24 u26 u27 u28 u29 u30 u31 u32 u33 u34 u35 u36 u37 u38 u39 u40 u41 u42 u43 u44 u45 u46 u47 u48 u49 u50 u51 u52 u53 u54 u55 u56 u57 u58 u59 u60 u61 u62 u63 u64 u65 u66 u67 u68 u69 u70 u71 u72 u73 u74 u75 u76 u77 u78 u79 u80 u81 u82 u83 u84 u85 u86 u87 u88 u89 u90 u91 u92 u93 u94 u95 u96 u97 u98 u99 u100 u101 u102 u103 u104 u105 u106 u107 u108 u109 u110 u111 u112 u113 u114 u115 u116 u117 u118 u119 u120 u121 u122 u123 u124 u125 u126 u127 u128 u129 u130 u131 u132 u133 u134 u135 u136 u137 u138 u139 u140 u141 u142 u143 u144 u145 u146 u147 u148 u149 u150 u151 u152 u153 u154 u155 u156 u157 u158 u159 u160 u161 u162 u163 u164 u165 u166 u167 u168 u169 u170 u171 u172 u173 u174 u175 u176 u177 u178 u179 u180 u181 u182 u183 u184 u185 u186 u187 u188 u189 u190 u191 u192 u193 u194 u195 u196 u197 u198 u199 u200 u201 u202 u203 u204 u205 u206 u207 u208 u209 u210 u211 u212:Value) (Q:Exit→Act→World→Prop) (gr:Gr n l c r D F W) (hcz:zs.length ≤ cz) (hz:RdZ W0 W0.heap.size A zs) (hll:lv.length=D) (ha:Arr N D lv l c W dsF) (hcnt:((cntB D (fun i=>!srvD N lv i):Nat):Int) ≤ l - 4) (hρ:ρ < 16) (hkk:kk < W) (hpn:plN l (D:Int) c (ρ:Int) (kk:Int)=pn) (hxz:(-9223372036854775808 ≤ xz∧xz ≤ 9223372036854775807)) (hxe:sectorB xz=x) (hds:dsF=dsSet (fun t=>datL zs t W) ρ kk x∨(dsF=(fun t=>datL zs t W)∧dn=true)) (hI:(0 ≤ 16∧KS W0 w b H N [(gl,Obj.cells (lv.map Value.bool).toArray 4 (0,0)),(gb,Obj.cells #[.int .i64 l,.int .i64 (D:Int),.int .i64 c] 24 (0,0))] [] []))
    (hX:∀ (v14 v26 v27 v28 v29 v30 v144 v145 v146 v147 v148 v149 v150 v151 v152 v153 v154 v155 v156 v157 v158 v159 v160 v161 v162 v163 v164 v165 v166 v167 v168 v169 v170 v171 v172 v173 v174 v175 v176 v177 v178 v179 v180 v181 v182 v183 v184 v185 v186 v187 v188 v189 v190 v191 v192 v193 v194 v195 v196 v197 v198 v199 v200 v201 v202 v203 v204 v205 v206 v207 v208 v209 v210 v211:Value) (s:Nat) (V:World),(s ≤ 16∧KS W0 V b H N [(gl,Obj.cells (lv.map Value.bool).toArray 4 (0,0)),(gb,Obj.cells #[.int .i64 l,.int .i64 (D:Int),.int .i64 c] 24 (0,0))] [] [])→(s=16)→Q (.exit 0) ⟨List.toArray (u0::(.slice A zs.length cz)::(.int .i64 pn)::(.int .i64 xz)::u4::u5::u6::u7::u8::u9::u10::u11::u12::u13::v14::(.pointer (some ⟨gb,0,none⟩))::(.pointer (some ⟨b,0,none⟩))::(.slice (some ⟨gl,0,none⟩) D D)::u18::u19::u20::(.bool dn)::u22::u23::u24::(.int .i64 ((s:Nat):Int))::v26::v27::v28::v29::v30::u31::u32::u33::u34::u35::u36::u37::u38::u39::u40::u41::u42::u43::u44::u45::u46::u47::u48::u49::u50::u51::u52::u53::u54::u55::u56::u57::u58::u59::u60::u61::u62::u63::u64::u65::u66::u67::u68::u69::u70::u71::u72::u73::u74::u75::u76::u77::u78::u79::u80::u81::u82::u83::u84::u85::u86::u87::u88::u89::u90::u91::u92::u93::u94::u95::u96::u97::u98::u99::u100::u101::u102::u103::u104::u105::u106::u107::u108::u109::u110::u111::u112::u113::u114::u115::u116::u117::u118::u119::u120::u121::u122::u123::u124::u125::u126::u127::u128::u129::u130::u131::u132::u133::u134::u135::u136::u137::u138::u139::u140::u141::u142::u143::v144::v145::v146::v147::v148::v149::v150::v151::v152::v153::v154::v155::v156::v157::v158::v159::v160::v161::v162::v163::v164::v165::v166::v167::v168::v169::v170::v171::v172::v173::v174::v175::v176::v177::v178::v179::v180::v181::v182::v183::v184::v185::v186::v187::v188::v189::v190::v191::v192::v193::v194::v195::v196::v197::v198::v199::v200::v201::v202::v203::v204::v205::v206::v207::v208::v209::v210::v211::u212::[]),[]⟩ V) :
    Code.wp Tryz.prog (.loop (sub [1,1,1,1,1,1,1,1,1,1,1,1,1,1,1,1,1,1,0,1,0,0] codeUC)) Q ⟨List.toArray (u0::(.slice A zs.length cz)::(.int .i64 pn)::(.int .i64 xz)::u4::u5::u6::u7::u8::u9::u10::u11::u12::u13::u14::(.pointer (some ⟨gb,0,none⟩))::(.pointer (some ⟨b,0,none⟩))::(.slice (some ⟨gl,0,none⟩) D D)::u18::u19::u20::(.bool dn)::u22::u23::u24::(.int .i64 ((0:Nat):Int))::u26::u27::u28::u29::u30::u31::u32::u33::u34::u35::u36::u37::u38::u39::u40::u41::u42::u43::u44::u45::u46::u47::u48::u49::u50::u51::u52::u53::u54::u55::u56::u57::u58::u59::u60::u61::u62::u63::u64::u65::u66::u67::u68::u69::u70::u71::u72::u73::u74::u75::u76::u77::u78::u79::u80::u81::u82::u83::u84::u85::u86::u87::u88::u89::u90::u91::u92::u93::u94::u95::u96::u97::u98::u99::u100::u101::u102::u103::u104::u105::u106::u107::u108::u109::u110::u111::u112::u113::u114::u115::u116::u117::u118::u119::u120::u121::u122::u123::u124::u125::u126::u127::u128::u129::u130::u131::u132::u133::u134::u135::u136::u137::u138::u139::u140::u141::u142::u143::u144::u145::u146::u147::u148::u149::u150::u151::u152::u153::u154::u155::u156::u157::u158::u159::u160::u161::u162::u163::u164::u165::u166::u167::u168::u169::u170::u171::u172::u173::u174::u175::u176::u177::u178::u179::u180::u181::u182::u183::u184::u185::u186::u187::u188::u189::u190::u191::u192::u193::u194::u195::u196::u197::u198::u199::u200::u201::u202::u203::u204::u205::u206::u207::u208::u209::u210::u211::u212::[]),[]⟩ w:=by
 refine wp_loop_ghost (fun gk a V=>∀ C:Prop,(∀ (u14 u26 u27 u28 u29 u30 u144 u145 u146 u147 u148 u149 u150 u151 u152 u153 u154 u155 u156 u157 u158 u159 u160 u161 u162 u163 u164 u165 u166 u167 u168 u169 u170 u171 u172 u173 u174 u175 u176 u177 u178 u179 u180 u181 u182 u183 u184 u185 u186 u187 u188 u189 u190 u191 u192 u193 u194 u195 u196 u197 u198 u199 u200 u201 u202 u203 u204 u205 u206 u207 u208 u209 u210 u211:Value) (s:Nat),gk=16 - s→(s ≤ 16∧KS W0 V b H N [(gl,Obj.cells (lv.map Value.bool).toArray 4 (0,0)),(gb,Obj.cells #[.int .i64 l,.int .i64 (D:Int),.int .i64 c] 24 (0,0))] [] [])→a=⟨List.toArray (u0::(.slice A zs.length cz)::(.int .i64 pn)::(.int .i64 xz)::u4::u5::u6::u7::u8::u9::u10::u11::u12::u13::u14::(.pointer (some ⟨gb,0,none⟩))::(.pointer (some ⟨b,0,none⟩))::(.slice (some ⟨gl,0,none⟩) D D)::u18::u19::u20::(.bool dn)::u22::u23::u24::(.int .i64 ((s:Nat):Int))::u26::u27::u28::u29::u30::u31::u32::u33::u34::u35::u36::u37::u38::u39::u40::u41::u42::u43::u44::u45::u46::u47::u48::u49::u50::u51::u52::u53::u54::u55::u56::u57::u58::u59::u60::u61::u62::u63::u64::u65::u66::u67::u68::u69::u70::u71::u72::u73::u74::u75::u76::u77::u78::u79::u80::u81::u82::u83::u84::u85::u86::u87::u88::u89::u90::u91::u92::u93::u94::u95::u96::u97::u98::u99::u100::u101::u102::u103::u104::u105::u106::u107::u108::u109::u110::u111::u112::u113::u114::u115::u116::u117::u118::u119::u120::u121::u122::u123::u124::u125::u126::u127::u128::u129::u130::u131::u132::u133::u134::u135::u136::u137::u138::u139::u140::u141::u142::u143::u144::u145::u146::u147::u148::u149::u150::u151::u152::u153::u154::u155::u156::u157::u158::u159::u160::u161::u162::u163::u164::u165::u166::u167::u168::u169::u170::u171::u172::u173::u174::u175::u176::u177::u178::u179::u180::u181::u182::u183::u184::u185::u186::u187::u188::u189::u190::u191::u192::u193::u194::u195::u196::u197::u198::u199::u200::u201::u202::u203::u204::u205::u206::u207::u208::u209::u210::u211::u212::[]),[]⟩→C)→C) (16 - 0) ?_ ?_
 ·intro C hC
  exact hC _ _ _ _ _ _ _ _ _ _ _ _ _ _ _ _ _ _ _ _ _ _ _ _ _ _ _ _ _ _ _ _ _ _ _ _ _ _ _ _ _ _ _ _ _ _ _ _ _ _ _ _ _ _ _ _ _ _ _ _ _ _ _ _ _ _ _ _ _ _ _ _ _ _ (0) rfl hI rfl
 ·intro gk a V hI'
  refine hI' _ ?_
  intro u14 u26 u27 u28 u29 u30 u144 u145 u146 u147 u148 u149 u150 u151 u152 u153 u154 u155 u156 u157 u158 u159 u160 u161 u162 u163 u164 u165 u166 u167 u168 u169 u170 u171 u172 u173 u174 u175 u176 u177 u178 u179 u180 u181 u182 u183 u184 u185 u186 u187 u188 u189 u190 u191 u192 u193 u194 u195 u196 u197 u198 u199 u200 u201 u202 u203 u204 u205 u206 u207 u208 u209 u210 u211 s hk hinv ha
  subst ha
  subst hk
  refine ucOb _ _ _ _ _ _ _ _ _ _ _ _ _ _ _ _ _ _ _ _ _ _ _ _ _ _ _ _ _ _ _ _ _ _ _ _ _ _ _ _ _ _ _ _ _ _ _ _ _ _ _ _ _ _ _ _ _ _ _ _ _ _ _ _ _ _ _ _ _ _ _ _ _ _ _ _ _ _ _ _ _ _ _ _ _ _ _ _ _ _ _ _ _ _ _ _ _ _ _ _ _ _ _ _ _ _ _ _ _ _ _ _ _ _ _ _ _ _ _ _ _ _ _ _ _ _ _ _ _ _ _ _ _ _ _ _ _ _ _ _ _ _ _ _ _ _ _ _ _ _ _ _ _ _ _ _ _ _ _ _ _ _ _ _ _ _ _ _ _ _ _ _ _ _ _ _ _ _ _ _ _ _ _ _ _ _ _ _ _ _ _ _ _ _ _ _ _ _ _ _ _ _ _ _ _ _ _ gr hcz hz hll ha hcnt hρ hkk hpn hxz hxe hds hinv (fun v14 v26 v27 v28 v29 v30 v144 v145 v146 v147 v148 v149 v150 v151 v152 v153 v154 v155 v156 v157 v158 v159 v160 v161 v162 v163 v164 v165 v166 v167 v168 v169 v170 v171 v172 v173 v174 v175 v176 v177 v178 v179 v180 v181 v182 v183 v184 v185 v186 v187 v188 v189 v190 v191 v192 v193 v194 v195 v196 v197 v198 v199 v200 v201 v202 v203 v204 v205 v206 v207 v208 v209 v210 v211  V2 h2 hm=>?_) (fun v14 v26 v27 v28 v29 v30 v144 v145 v146 v147 v148 v149 v150 v151 v152 v153 v154 v155 v156 v157 v158 v159 v160 v161 v162 v163 v164 v165 v166 v167 v168 v169 v170 v171 v172 v173 v174 v175 v176 v177 v178 v179 v180 v181 v182 v183 v184 v185 v186 v187 v188 v189 v190 v191 v192 v193 v194 v195 v196 v197 v198 v199 v200 v201 v202 v203 v204 v205 v206 v207 v208 v209 v210 v211 hx=>hX v14 v26 v27 v28 v29 v30 v144 v145 v146 v147 v148 v149 v150 v151 v152 v153 v154 v155 v156 v157 v158 v159 v160 v161 v162 v163 v164 v165 v166 v167 v168 v169 v170 v171 v172 v173 v174 v175 v176 v177 v178 v179 v180 v181 v182 v183 v184 v185 v186 v187 v188 v189 v190 v191 v192 v193 v194 v195 v196 v197 v198 v199 v200 v201 v202 v203 v204 v205 v206 v207 v208 v209 v210 v211 s V hinv hx)
  refine ⟨_,hm,fun C hC=>?_⟩
  exact hC v14 v26 v27 v28 v29 v30 v144 v145 v146 v147 v148 v149 v150 v151 v152 v153 v154 v155 v156 v157 v158 v159 v160 v161 v162 v163 v164 v165 v166 v167 v168 v169 v170 v171 v172 v173 v174 v175 v176 v177 v178 v179 v180 v181 v182 v183 v184 v185 v186 v187 v188 v189 v190 v191 v192 v193 v194 v195 v196 v197 v198 v199 v200 v201 v202 v203 v204 v205 v206 v207 v208 v209 v210 v211 ((s + 1)) rfl h2 rfl
set_option maxRecDepth 100000 in
set_option maxHeartbeats 3200000 in
theorem ucT {W0:World} {n l c r pn xz:Int} {D F W ρ kk b gb gl cz:Nat} {A:Option Addr} {zs:List Int} {lv:List Bool} {dsF:Nat→List (List UInt8)} {x:List UInt8} {dn:Bool} {H:BH} {N:Bch} {w:World} (u0 u4 u5 u6 u7 u8 u9 u10 u11 u12 u13 u14 u18 u19 u20 u22 u23 u24 u25 u26 u27 u28 u29 u30 u31 u32 u33 u34 u35 u36 u37 u38 u39 u40 u41 u42 u43 u44 u45 u46 u47 u48 u49 u50 u51 u52 u53 u54 u55 u56 u57 u58 u59 u60 u61 u62 u63 u64 u65 u66 u67 u68 u69 u70 u71 u72 u73 u74 u75 u76 u77 u78 u79 u80 u81 u82 u83 u84 u85 u86 u87 u88 u89 u90 u91 u92 u93 u94 u95 u96 u97 u98 u99 u100 u101 u102 u103 u104 u105 u106 u107 u108 u109 u110 u111 u112 u113 u114 u115 u116 u117 u118 u119 u120 u121 u122 u123 u124 u125 u126 u127 u128 u129 u130 u131 u132 u133 u134 u135 u136 u137 u138 u139 u140 u141 u142 u143 u144 u145 u146 u147 u148 u149 u150 u151 u152 u153 u154 u155 u156 u157 u158 u159 u160 u161 u162 u163 u164 u165 u166 u167 u168 u169 u170 u171 u172 u173 u174 u175 u176 u177 u178 u179 u180 u181 u182 u183 u184 u185 u186 u187 u188 u189 u190 u191 u192 u193 u194 u195 u196 u197 u198 u199 u200 u201 u202 u203 u204 u205 u206 u207 u208 u209 u210 u211 u212:Value) (Q:Exit→Act→World→Prop) (hp:UpdP) (gr:Gr n l c r D F W) (hcz:zs.length ≤ cz) (hz:RdZ W0 W0.heap.size A zs) (hll:lv.length=D) (ha:Arr N D lv l c W dsF) (hcnt:((cntB D (fun i=>!srvD N lv i):Nat):Int) ≤ l - 4) (hρ:ρ < 16) (hkk:kk < W) (hpn:plN l (D:Int) c (ρ:Int) (kk:Int)=pn) (hxz:(-9223372036854775808 ≤ xz∧xz ≤ 9223372036854775807)) (hxe:sectorB xz=x) (hds:dsF=dsSet (fun t=>datL zs t W) ρ kk x∨(dsF=(fun t=>datL zs t W)∧dn=true)) (hk:KS W0 w b H N [(gl,Obj.cells (lv.map Value.bool).toArray 4 (0,0)),(gb,Obj.cells #[.int .i64 l,.int .i64 (D:Int),.int .i64 c] 24 (0,0))] [] [])
    (hQ:∀ (v0 v1 v2 v3 v4 v5 v6 v7 v8 v9 v10 v11 v12 v13 v15 v16 v17 v18 v19 v20 v21 v22 v23 v24 v25 v26 v27 v28 v29 v30 v31 v32 v33 v34 v35 v36 v37 v38 v39 v40 v41 v42 v43 v44 v45 v46 v47 v48 v49 v50 v51 v52 v53 v54 v55 v56 v57 v58 v59 v60 v61 v62 v63 v64 v65 v66 v67 v68 v69 v70 v71 v72 v73 v74 v75 v76 v77 v78 v79 v80 v81 v82 v83 v84 v85 v86 v87 v88 v89 v90 v91 v92 v93 v94 v95 v96 v97 v98 v99 v100 v101 v102 v103 v104 v105 v106 v107 v108 v109 v110 v111 v112 v113 v114 v115 v116 v117 v118 v119 v120 v121 v122 v123 v124 v125 v126 v127 v128 v129 v130 v131 v132 v133 v134 v135 v136 v137 v138 v139 v140 v141 v142 v143 v144 v145 v146 v147 v148 v149 v150 v151 v152 v153 v154 v155 v156 v157 v158 v159 v160 v161 v162 v163 v164 v165 v166 v167 v168 v169 v170 v171 v172 v173 v174 v175 v176 v177 v178 v179 v180 v181 v182 v183 v184 v185 v186 v187 v188 v189 v190 v191 v192 v193 v194 v195 v196 v197 v198 v199 v200 v201 v202 v203 v204 v205 v206 v207 v208 v209 v210 v211 v212:Value) (V:World),Below W0.heap.size W0 V→Q .ret ⟨List.toArray (v0::v1::v2::v3::v4::v5::v6::v7::v8::v9::v10::v11::v12::v13::(.bool true)::v15::v16::v17::v18::v19::v20::v21::v22::v23::v24::v25::v26::v27::v28::v29::v30::v31::v32::v33::v34::v35::v36::v37::v38::v39::v40::v41::v42::v43::v44::v45::v46::v47::v48::v49::v50::v51::v52::v53::v54::v55::v56::v57::v58::v59::v60::v61::v62::v63::v64::v65::v66::v67::v68::v69::v70::v71::v72::v73::v74::v75::v76::v77::v78::v79::v80::v81::v82::v83::v84::v85::v86::v87::v88::v89::v90::v91::v92::v93::v94::v95::v96::v97::v98::v99::v100::v101::v102::v103::v104::v105::v106::v107::v108::v109::v110::v111::v112::v113::v114::v115::v116::v117::v118::v119::v120::v121::v122::v123::v124::v125::v126::v127::v128::v129::v130::v131::v132::v133::v134::v135::v136::v137::v138::v139::v140::v141::v142::v143::v144::v145::v146::v147::v148::v149::v150::v151::v152::v153::v154::v155::v156::v157::v158::v159::v160::v161::v162::v163::v164::v165::v166::v167::v168::v169::v170::v171::v172::v173::v174::v175::v176::v177::v178::v179::v180::v181::v182::v183::v184::v185::v186::v187::v188::v189::v190::v191::v192::v193::v194::v195::v196::v197::v198::v199::v200::v201::v202::v203::v204::v205::v206::v207::v208::v209::v210::v211::v212::[]),[]⟩ V) :
    Code.wp Tryz.prog (sub [1,1,1,1,1,1,1,1,1,1,1,1,1,1,1,1,1,1] codeUC) Q ⟨List.toArray (u0::(.slice A zs.length cz)::(.int .i64 pn)::(.int .i64 xz)::u4::u5::u6::u7::u8::u9::u10::u11::u12::u13::u14::(.pointer (some ⟨gb,0,none⟩))::(.pointer (some ⟨b,0,none⟩))::(.slice (some ⟨gl,0,none⟩) D D)::u18::u19::u20::(.bool dn)::u22::u23::u24::u25::u26::u27::u28::u29::u30::u31::u32::u33::u34::u35::u36::u37::u38::u39::u40::u41::u42::u43::u44::u45::u46::u47::u48::u49::u50::u51::u52::u53::u54::u55::u56::u57::u58::u59::u60::u61::u62::u63::u64::u65::u66::u67::u68::u69::u70::u71::u72::u73::u74::u75::u76::u77::u78::u79::u80::u81::u82::u83::u84::u85::u86::u87::u88::u89::u90::u91::u92::u93::u94::u95::u96::u97::u98::u99::u100::u101::u102::u103::u104::u105::u106::u107::u108::u109::u110::u111::u112::u113::u114::u115::u116::u117::u118::u119::u120::u121::u122::u123::u124::u125::u126::u127::u128::u129::u130::u131::u132::u133::u134::u135::u136::u137::u138::u139::u140::u141::u142::u143::u144::u145::u146::u147::u148::u149::u150::u151::u152::u153::u154::u155::u156::u157::u158::u159::u160::u161::u162::u163::u164::u165::u166::u167::u168::u169::u170::u171::u172::u173::u174::u175::u176::u177::u178::u179::u180::u181::u182::u183::u184::u185::u186::u187::u188::u189::u190::u191::u192::u193::u194::u195::u196::u197::u198::u199::u200::u201::u202::u203::u204::u205::u206::u207::u208::u209::u210::u211::u212::[]),[]⟩ w:=by
 have HQ:=Lib.hid hQ
 clear hQ
 have HWk:=Lib.hid (fun V=>wakesUpd_any hp V)
 conv=>arg 2;whnf
 go_upto_block 0 with fail
 refine wp_block ?_
 refine ucO _ _ _ _ _ _ _ _ _ _ _ _ _ _ _ _ _ _ _ _ _ _ _ _ _ _ _ _ _ _ _ _ _ _ _ _ _ _ _ _ _ _ _ _ _ _ _ _ _ _ _ _ _ _ _ _ _ _ _ _ _ _ _ _ _ _ _ _ _ _ _ _ _ _ _ _ _ _ _ _ _ _ _ _ _ _ _ _ _ _ _ _ _ _ _ _ _ _ _ _ _ _ _ _ _ _ _ _ _ _ _ _ _ _ _ _ _ _ _ _ _ _ _ _ _ _ _ _ _ _ _ _ _ _ _ _ _ _ _ _ _ _ _ _ _ _ _ _ _ _ _ _ _ _ _ _ _ _ _ _ _ _ _ _ _ _ _ _ _ _ _ _ _ _ _ _ _ _ _ _ _ _ _ _ _ _ _ _ _ _ _ _ _ _ _ _ _ _ _ _ _ _ _ _ _ _ gr hcz hz hll ha hcnt hρ hkk hpn hxz hxe hds ⟨Nat.zero_le _,hk⟩ (fun v14 v26 v27 v28 v29 v30 v144 v145 v146 v147 v148 v149 v150 v151 v152 v153 v154 v155 v156 v157 v158 v159 v160 v161 v162 v163 v164 v165 v166 v167 v168 v169 v170 v171 v172 v173 v174 v175 v176 v177 v178 v179 v180 v181 v182 v183 v184 v185 v186 v187 v188 v189 v190 v191 v192 v193 v194 v195 v196 v197 v198 v199 v200 v201 v202 v203 v204 v205 v206 v207 v208 v209 v210 v211 s V8 hI hx=>?_)
 have F8:=Lib.hid hI.2.bp.bel
 clear hI hx hk ha hcnt hds gr hz hp
 go_wp2_with (first
  |(go_at_call 21
    (with_reducible refine (HWk.out _).mono ?_)
    rintro e w9 ⟨rfl,hb9⟩
    have F9:=Lib.hid (F8.out.trans (hb9.mono F8.out.size))
    clear hb9))
 exact HQ.out _ _ _ _ _ _ _ _ _ _ _ _ _ _ _ _ _ _ _ _ _ _ _ _ _ _ _ _ _ _ _ _ _ _ _ _ _ _ _ _ _ _ _ _ _ _ _ _ _ _ _ _ _ _ _ _ _ _ _ _ _ _ _ _ _ _ _ _ _ _ _ _ _ _ _ _ _ _ _ _ _ _ _ _ _ _ _ _ _ _ _ _ _ _ _ _ _ _ _ _ _ _ _ _ _ _ _ _ _ _ _ _ _ _ _ _ _ _ _ _ _ _ _ _ _ _ _ _ _ _ _ _ _ _ _ _ _ _ _ _ _ _ _ _ _ _ _ _ _ _ _ _ _ _ _ _ _ _ _ _ _ _ _ _ _ _ _ _ _ _ _ _ _ _ _ _ _ _ _ _ _ _ _ _ _ _ _ _ _ _ _ _ _ _ _ _ _ _ _ _ _ _ _ _ _ _ _ _ _ _ _ _ _ F9.out
end Go.Proofs.YtenkkdnepmoihaaGreatDoor
end
section
set_option maxRecDepth 20000
set_option linter.unusedVariables false
set_option linter.unusedSimpArgs false
namespace Go.Proofs.YtenkkdnepmoihaaGreatDoor
open Go.RowKit
theorem RdIF.rdc {w:World} {F:Nat→Prop} {A:Option Addr} {l:List It} (h:RdIF w F A l):RdIc w w.heap.size A l :=
 ⟨by have:=h.1;omega,fun hn=>by
  obtain ⟨b,e,hb,_,hk⟩:=h.2 hn
  refine ⟨b,e,hb,fun k hkl=>?_⟩
  obtain ⟨D,c,h1,hcc,h2,_⟩:=hk k hkl
  exact ⟨D,c,h1,h2,hcc⟩⟩
theorem tdiv2_bd {z:Int} (h:(-9223372036854775808 ≤ z∧z ≤ 9223372036854775807)):(-9223372036854775808 ≤ z.tdiv 2∧z.tdiv 2 ≤ 9223372036854775807):=by
 rcases Int.le_total 0 z with h0 | h0
 ·rw [Int.tdiv_eq_ediv_of_nonneg h0];omega
 ·have e:z.tdiv 2=-((-z) / 2):=by
    rw [← Int.tdiv_eq_ediv_of_nonneg (by omega),Int.neg_tdiv,Int.neg_neg]
  rw [e];omega
set_option maxRecDepth 100000 in
set_option maxHeartbeats 3200000 in
theorem updatecrash (hu:UpdC) (hp:UpdP) (n:Int) (A:Option Addr) (zl:List Int) (cl:Nat) (pt xz lim:Int) (Ak:Option Addr) (ks:List Bool) (ck:Nat) (lose:Int) (w:World) (hn:(-9223372036854775808 ≤ n∧n ≤ 9223372036854775807)) (hcl:zl.length ≤ cl) (hzl:RdZ w w.heap.size A zl) (hpt:(-9223372036854775808 ≤ pt∧pt ≤ 9223372036854775807)) (hxz:(-9223372036854775808 ≤ xz∧xz ≤ 9223372036854775807)) (hlim:(-9223372036854775808 ≤ lim∧lim ≤ 9223372036854775807)) (hck:ks.length ≤ ck) (hks:RdO w w.heap.size Ak ks) (hlo:(-9223372036854775808 ≤ lose∧lose ≤ 9223372036854775807)) (ht:TabOk w) :
    Calls Tryz.prog 5 #[.int .i64 n,.slice A zl.length cl,.int .i64 pt,.int .i64 xz,.int .i64 lim,.slice Ak ks.length ck,.int .i64 lose] w fun e w'=>e=.returned (.bool true)∧Below w.heap.size w w':=by
 have hpn:=ptr_eq
 have HP:=Lib.hid (fun V=>playGood_any n V hn)
 obtain ⟨D,F,W,hD,gr⟩:=gr_of n (r:=0) (by omega) (by omega)
 rw [hD] at HP
 have hd8:=gr.d8;have hd3:=gr.d3;have hw7:=gr.w7
 generalize goL n=l at *
 generalize goC n=c at *
 have CFl:=Lib.hid (fun (w1:World) (hb1:Below w.heap.size w w1)=>filled_open gr D (Nat.le_refl _) hd8 zl.length cl hb1 rfl hcl hzl)
 have HWk:=Lib.hid (fun V=>wakesUpd_any hp V)
 have hll:=liveL_len 0 D
 have hlive:∀ i,i < D→(liveL 0 D).getD i false=true:=fun i hi=>live0 hi
 have hg:=(plOk_yes gr.ok).1
 have hcap:gCap l (D:Int) c=(W:Int) * 16:=by rw [gCap_yes hg,← gWid_yes hg,gr.wd]
 have w1:=gr.w1
 have hab:=withinI_bd pt (gCap l (D:Int) c) (by omega)
 obtain ⟨ρ,k,hρ,hkW,hat,_,_⟩:=num_of gr hab.1 hab.2
 have CC:=Lib.hid (fun V=>refCapacity_any l (D:Int) c V gr.l64 gr.d64 gr.c64)
 have CW:=fun V=>within_any pt (gCap l (D:Int) c) V hpt (by omega)
 rw [hat] at hab
 simp only [hat] at CW
 replace CW:=Lib.hid CW
 have CL1:=fun V=>within_any lose 2 V hlo (by omega)
 have htb:=tdiv2_bd hlo
 have CL2:=fun V=>within_any (lose.tdiv 2) (D:Int) V htb (by omega)
 have hd1:=withinI_bd (lose.tdiv 2) (D:Int) (by omega)
 have Hew:=Lib.hid (show IntKind.i64.wrap (lose.tdiv 2)=lose.tdiv 2 from by rw [IntKind.wrap_i64];omega)
 obtain ⟨d1,he1⟩:=Int.eq_ofNat_of_zero_le hd1.1
 rw [he1] at CL2 hd1
 generalize withinI lose 2=q2 at CL1
 replace CL1:=Lib.hid CL1
 replace CL2:=Lib.hid CL2
 have hx:=sectorB_len xz
 obtain ⟨x,hxe⟩:∃ x,sectorB xz=x:=⟨_,rfl⟩
 rw [hxe] at hx
 have Gr':=Lib.hid gr
 have Hzl:=Lib.hid hzl
 have Hks:=Lib.hid hks
 obtain ⟨pn,hplN⟩:∃ pn,plN l (D:Int) c (ρ:Int) (k:Int)=pn:=⟨_,rfl⟩
 rw [hplN] at hab CW
 have hpb:(-9223372036854775808 ≤ pn∧pn ≤ 9223372036854775807):=by omega
 clear hD hn hzl hat he1 hpt htb hks hcap
 go_enter Tryz.func5,Tryz.ntmps5
 go_wp2_with fail
 (with_reducible refine (HP.out _).mono ?_);rintro e w1 ⟨rfl,hb1⟩
 have G:=gat_new w1 l D c 24 (0,0)
 obtain ⟨g1,g2,g3⟩:=G
 have CFl1:=Lib.hid (CFl.out w1 hb1)
 clear hb1 CFl
 go_wp2_with fail
 (with_reducible refine CFl1.out.mono ?_);rintro e w2 ⟨b,H0,N0,rfl,k0,f0⟩
 have CLv:=Lib.hid (ks_live k0 0 D (by omega) (by omega))
 obtain ⟨g4,g5,g6⟩:=k0.gat (g:=w1.heap.size) (l:=l) (d:=(D:Int)) (c:=c) (t:=24) (f:=(0,0)) (by simp)
 have Hf0:=Lib.hid f0
 clear k0 f0 CFl1 g1 g2 g3
 generalize w1.heap.size=gb at *
 go_wp2_with fail
 (with_reducible refine CLv.out.mono ?_);rintro e w3 ⟨gl,rfl,k1⟩
 have K1:=Lib.hid k1
 have hgne:gl ≠ gb:=fun e=>by
  have h3:=(k1.kx.kp (gl,Obj.cells ((liveL 0 D).map Value.bool).toArray 4 (0,0)) (by simp)).1
  have h4:=(k1.kx.kp (gb,Obj.cells #[.int .i64 l,.int .i64 (D:Int),.int .i64 c] 24 (0,0)) (by simp)).1
  rw [show (gl,Obj.cells ((liveL 0 D).map Value.bool).toArray 4 (0,0)).1=gb from e,h4] at h3
  injection h3 with h3
  injection h3 with h3 _ _
  have h5:=congrArg (fun t:Array Value=>t[0]?) h3
  simp [show 0 < (liveL 0 D).length by omega] at h5
 clear k1 CLv g4 g5 g6
 have hlvS:∀ i,i < D→i ≠ d1→((liveL 0 D).set d1 false).getD i false=true:=fun i hi hne=>by
  rw [List.getD_eq_getElem?_getD,List.getElem?_set_ne (by omega),← List.getD_eq_getElem?_getD]
  exact live0 hi
 generalize liveL 0 D=lv at *
 have ha0:=Hf0.out.arr lv
 obtain ⟨e1,ha1,hf1,hdn1⟩:=put_arr ha0 hd8 (s:=1) (its:=[]) ok1
 have hlog1:∀ j,j < D→logR ((putS N0 lv 1 []).2.D j)=recB 1 []:=fun j hj=>put_log ha0.st.good ok1 j (by rw [ha0.st.n];exact hj) (by rw [liveD_nat,hlive j hj,ha0.st.n,decide_eq_true hj];rfl) (Hf0.out.gd.f j hj)
 have CE:=fun (V:World) (k':KS w V b H0 N0 [(gl,Obj.cells (lv.map Value.bool).toArray 4 (0,0)),(gb,Obj.cells #[.int .i64 l,.int .i64 (D:Int),.int .i64 c] 24 (0,0))] [] [])=>ks_empty k' hu ht lv (some ⟨gl,0,none⟩) D D hll.symm (k'.lv (g:=gl) (t:=4) (f:=(0,0)) (lv:=lv) (by simp) rfl (by omega)) 1 (by omega) (fun j hj=>by rw [ha0.st.good.ps j hj];exact Nat.zero_le _) (by rw [Hf0.out.gd.done];omega)
 rw [e1] at CE
 have hdn1':(putS N0 lv 1 []).2.done ≤ 32:=by have:=Hf0.out.gd.done;omega
 generalize (putS N0 lv 1 []).2=N1 at CE ha1 hf1 hdn1 hlog1 hdn1'
 replace CE:=Lib.hid CE
 have up1:Up N1 D:=⟨ha1.st.n,ha1.st.good.dn,fun i hi=>(hf1 i hi).trans (Hf0.out.gd.f i hi)⟩
 clear e1 hf1 hdn1 ha0 Hf0
 have hall:∀ i,i < D→srvD N1 lv i=true:=fun i hi=>srvD_mk (by rw [up1.n];exact hi) (hlive i hi) (up1.f i hi)
 have hcnt:((cntB D (fun i=>!srvD N1 lv i):Nat):Int) ≤ l - 4:=by
  rw [cntB_none fun i hi=>by rw [hall i hi];rfl]
  have:=gr.lv;omega
 obtain ⟨u0,u1,_⟩:=up_at (gr.at hρ) hkW hx (ha1.ok gr hρ hcnt)
 rw [show upIts N1 lv (36 + ρ) (fillL D (roF l (D:Int) c (ρ:Int)) ((datL zl ρ W).set k x)) (ksL l D (roF l (D:Int) c (ρ:Int)) W k)=(chIts N1 D lv l c W ρ k (fun t=>datL zl t W) x) from rfl] at u1
 have u2:=fun e=>ha1.fok gr hx (n:=plN l (D:Int) c (ρ:Int) (k:Int)) e
 have CUT:=fun v=>cut_do ha1 up1 hlive gr hρ hkW hx hlog1 v ks
 have CF:=fun (M4 N5:Bch) (lv5:List Bool) (dn:Bool) hf4 hol hmix halt hfine hn5 hg5 hpair hoth=>cut_found (N4:=M4) (N5:=N5) (lv5:=lv5) (dn:=dn) gr hρ hkW hx ha1 up1 hlive hlog1 hf4 hol hmix halt hfine hn5 hg5 hpair hoth
 have hil:(chIts N1 D lv l c W ρ k (fun t=>datL zl t W) x).length ≤ 1000:=by
  have:=((recOk_iff _ _).1 (ch_ok (N:=N1) (lv:=lv) gr ha1.da hρ hkW hx (s:=2) (by omega))).1.2.2
  omega
 generalize (chIts N1 D lv l c W ρ k (fun t=>datL zl t W) x)=its at u1 CUT CF hil
 rw [hplN] at u0 u1 u2 CUT
 have U2:=Lib.hid (u2 u0)
 have U2':=Lib.hid u2
 have Hup1:=Lib.hid up1
 have Ha1:=Lib.hid ha1
 have HCUT:=Lib.hid CUT
 have HCF:=Lib.hid CF
 have Hlive:=Lib.hid hlive
 have HlvS:=Lib.hid hlvS
 clear CUT CF u2 hall hcnt hlog1 hlive hlvS up1 ha1
 obtain ⟨g7,g8,g9⟩:=K1.out.gat (g:=gb) (l:=l) (d:=(D:Int)) (c:=c) (t:=24) (f:=(0,0)) (by simp)
 go_wp2_with fail
 (with_reducible refine (CC.out _).mono ?_);rintro e w4 ⟨rfl,hb4⟩
 have K2:=Lib.hid (K1.out.below hb4)
 clear hb4 g7 g8 g9 K1
 go_wp2_with fail
 (with_reducible refine (CW.out _).mono ?_);rintro e w5 ⟨rfl,h5⟩
 obtain rfl:w4=w5:=h5.symm
 have CE2:=Lib.hid (CE.out _ K2.out)
 clear h5 CE CC CW
 go_upto_region 9 with (go_at_call 20;(with_reducible refine CE2.out.mono ?_);rintro e w6 ⟨rfl,H6,k6⟩;have K6:=Lib.hid k6;clear k6)
 clear K2 CE2
 refine ucA _ _ _ _ _ _ _ _ _ _ _ _ _ _ _ _ _ _ _ _ _ _ _ _ _ _ _ _ _ _ _ _ _ _ _ _ _ _ _ _ _ _ _ _ _ _ _ _ _ _ _ _ _ _ _ _ _ _ _ _ _ _ _ _ _ _ _ _ _ _ _ _ _ _ _ _ _ _ _ _ _ _ _ _ _ _ _ _ _ _ _ _ _ _ _ _ _ _ _ _ _ _ _ _ _ _ _ _ _ _ _ _ _ _ _ _ _ _ _ _ _ _ _ _ _ _ _ _ _ _ _ _ _ _ _ _ _ _ _ _ _ _ _ _ _ _ _ _ _ _ _ _ _ _ _ _ _ _ _ _ _ _ _ _ _ _ _ _ _ _ _ _ _ _ _ _ _ _ _ _ _ _ _ _ _ _ _ _ _ _ _ _ _ _ _ _ _ _ _ _ _ _ _ _ _ _ _ _ _ _ hp Gr'.out K6.out hll hxz hpb hxe u0 u1 U2.out (fun v51 v52 v53 v54 v55 v56 v57 v58 v59 v60 p8 Ai ci V7 k7 hci=>?_)
 refine ‹∀ (a:Act) (w:World),Code.wp Tryz.prog _ _ a w→_› _ _ ?_
 have CK:=Lib.hid (ku_clone k7 (fun i hi=>by rw [Ha1.out.st.good.ps i hi];exact Nat.zero_le _))
 clear K6 k7
 go_wp2_with fail
 (with_reducible refine CK.out.mono ?_);rintro e w8 ⟨bw,H8,LW,rfl,k8,hb8,hVL⟩
 have K8:=Lib.hid k8
 have HVL:=Lib.hid hVL
 clear k8 hb8 hVL CK
 go_upto_region 13 with fail
 refine ucB (l:=l) (c:=c) (D:=D) (gb:=gb) (gl:=gl) (lv:=lv) _ _ _ _ _ _ _ _ _ _ _ _ _ _ _ _ _ _ _ _ _ _ _ _ _ _ _ _ _ _ _ _ _ _ _ _ _ _ _ _ _ _ _ _ _ _ _ _ _ _ _ _ _ _ _ _ _ _ _ _ _ _ _ _ _ _ _ _ _ _ _ _ _ _ _ _ _ _ _ _ _ _ _ _ _ _ _ _ _ _ _ _ _ _ _ _ _ _ _ _ _ _ _ _ _ _ _ _ _ _ _ _ _ _ _ _ _ _ _ _ _ _ _ _ _ _ _ _ _ _ _ _ _ _ _ _ _ _ _ _ _ _ _ _ _ _ _ _ _ _ _ _ _ _ _ _ _ _ _ _ _ _ _ _ _ _ _ _ _ _ _ _ _ _ _ _ _ _ _ _ _ _ _ _ _ _ _ _ _ _ _ _ _ _ _ _ _ _ _ _ _ _ _ _ _ _ _ _ _ _ _ _ K8.out (List.mem_append.2 (.inr (by simp))) hlim ⟨hd3,hd8⟩ Ha1.out.st.good.dn (fun v69 v70 v71 v72 v73 v74 v75 v76 v77 v78 v H9 V9 k9=>?_)
 refine ‹∀ (a:Act) (w:World),Code.wp Tryz.prog _ _ a w→_› _ _ ?_
 obtain ⟨e0,M,dn,hdo,hMd,hed,hMn,hg4,hn4,hf4,hol,hmix,halt⟩:=HCUT.out v
 have K9:=Lib.hid k9
 have hMl:∀ j,j < D→(M.D j).ps.length ≤ 35:=fun j hj=>by
  have h:=(do_len { N1 with left:=(v:Int) } lv l (D:Int) c pn x 2 (by show N1.n ≤ 8;rw [Ha1.out.st.n];exact hd8)).1 j
  rw [hdo] at h
  have h2:(N1.D j).ps=[]:=Ha1.out.st.good.ps j (by rw [Ha1.out.st.n];exact hj)
  have h3:({ N1 with left:=(v:Int) }:Bch).D j=N1.D j:=rfl
  rw [h3,h2] at h
  simpa using h
 have hMdone:M.done ≤ 80:=by
  have h:=(do_len { N1 with left:=(v:Int) } lv l (D:Int) c pn x 2 (by show N1.n ≤ 8;rw [Ha1.out.st.n];exact hd8)).2
  rw [hdo] at h
  have h3:({ N1 with left:=(v:Int) }:Bch).done=N1.done:=rfl
  rw [h3] at h
  dsimp only at h
  omega
 clear K8 k9 HCUT
 go_upto_region 14 with fail
 refine ucC _ _ _ _ _ _ _ _ _ _ _ _ _ _ _ _ _ _ _ _ _ _ _ _ _ _ _ _ _ _ _ _ _ _ _ _ _ _ _ _ _ _ _ _ _ _ _ _ _ _ _ _ _ _ _ _ _ _ _ _ _ _ _ _ _ _ _ _ _ _ _ _ _ _ _ _ _ _ _ _ _ _ _ _ _ _ _ _ _ _ _ _ _ _ _ _ _ _ _ _ _ _ _ _ _ _ _ _ _ _ _ _ _ _ _ _ _ _ _ _ _ _ _ _ _ _ _ _ _ _ _ _ _ _ _ _ _ _ _ _ _ _ _ _ _ _ _ _ _ _ _ _ _ _ _ _ _ _ _ _ _ _ _ _ _ _ _ _ _ _ _ _ _ _ _ _ _ _ _ _ _ _ _ _ _ _ _ _ _ _ _ _ _ _ _ _ _ _ _ _ _ _ _ _ _ _ _ _ _ _ hu ht Gr'.out K9.out (List.mem_append.2 (.inr (by simp))) (List.mem_append.2 (.inr (by simp))) hll hxz hpb hxe hdo (fun e=>U2'.out e) (fun i hi=>by
  have h2:(N1.D i).ps=[]:=Ha1.out.st.good.ps i hi
  show (N1.D i).ps.length ≤ 900000
  rw [h2];exact Nat.zero_le _) (by show N1.done ≤ 900000;omega) (fun v79 v80 v81 v82 v83 v84 v85 H10 V10 k10=>?_)
 refine ‹∀ (a:Act) (w:World),Code.wp Tryz.prog _ _ a w→_› _ _ ?_
 have K10:=Lib.hid k10
 clear K9 k10 hdo
 have CD:=bp_down _ _ _ _ _ K10.out.ks.bp
 rw [hMd] at CD
 replace CD:=Lib.hid CD
 go_upto_region 16 with (go_at_call 26;(with_reducible refine CD.out.mono ?_);rintro e w11 ⟨rfl,h11⟩;obtain rfl:V10=w11:=h11.symm;clear h11)
 refine ucD _ _ _ _ _ _ _ _ _ _ _ _ _ _ _ _ _ _ _ _ _ _ _ _ _ _ _ _ _ _ _ _ _ _ _ _ _ _ _ _ _ _ _ _ _ _ _ _ _ _ _ _ _ _ _ _ _ _ _ _ _ _ _ _ _ _ _ _ _ _ _ _ _ _ _ _ _ _ _ _ _ _ _ _ _ _ _ _ _ _ _ _ _ _ _ _ _ _ _ _ _ _ _ _ _ _ _ _ _ _ _ _ _ _ _ _ _ _ _ _ _ _ _ _ _ _ _ _ _ _ _ _ _ _ _ _ _ _ _ _ _ _ _ _ _ _ _ _ _ _ _ _ _ _ _ _ _ _ _ _ _ _ _ _ _ _ _ _ _ _ _ _ _ _ _ _ _ _ _ _ _ _ _ _ _ _ _ _ _ _ _ _ _ _ _ _ _ _ _ _ _ _ _ _ _ _ _ _ _ _ _ _ _ hed (fun v90 v91 v92 v93 v94 v95 v96 v97 v98 v99 v100=>?_)
 refine ‹∀ (a:Act) (w:World),Code.wp Tryz.prog _ _ a w→_› _ _ ?_
 have CKr:=Lib.hid (ku_crash K10.out ks Ak ks.length ck rfl hck Hks.out (fun i hi=>by have:=hMl i (by rw [← hMn];exact hi);omega))
 clear CD hed
 go_wp2_with fail
 (with_reducible refine CKr.out.mono ?_);rintro e w12 ⟨rfl,H12,k12⟩
 have K12:=Lib.hid k12
 have h4d:(M.crash ks).done=M.done:=rfl
 have CF3:=fun (N5:Bch) (lv5:List Bool) hfine hn5 hg5 hpair hoth=>HCF.out (M.crash ks) N5 lv5 dn hf4 hol hmix halt hfine hn5 hg5 hpair hoth
 generalize M.crash ks=N4 at K12 hg4 hn4 hf4 hol hmix halt CF3 h4d
 have HCF3:=Lib.hid CF3
 have Hup4:=Lib.hid (show Up N4 D from ⟨hn4,hg4.dn,hf4⟩)
 have Hg4:=Lib.hid hg4
 clear CF3 HCF hf4 hol hmix halt hg4 k12 CKr K10 hMl hMd hMn
 have hz:=(K12.out.ks.kx.kp (p8,Obj.cells #[.int .i64 2,.slice Ai its.length ci] 43 (0,0)) (List.mem_append.2 (.inr (List.mem_cons_self ..)))).1
 have c0:=cell_of_row w12 p8 0 _ _ _ hz
 have c1:=cell_of_row w12 p8 1 _ _ _ hz
 clear hz
 go_wp2_with fail
 have hp8:=heap_alloc_new w12 (.cells #[.int .i64 2,.slice Ai its.length ci] 43)
 have hb13:=below1 w12 (.cells #[.int .i64 2,.slice Ai its.length ci] 43)
 obtain ⟨w13,hw13⟩:∃ w13,w12.alloc (.cells #[.int .i64 2,.slice Ai its.length ci] 43)=w13:=⟨_,rfl⟩
 rw [hw13] at hp8 hb13 ⊢
 have k13:KU w w13 b H12 N4 (LW ++ ((p8,Obj.cells #[.int .i64 2,.slice Ai its.length ci] 43 (0,0))::[(gl,Obj.cells (lv.map Value.bool).toArray 4 (0,0)),(gb,Obj.cells #[.int .i64 l,.int .i64 (D:Int),.int .i64 c] 24 (0,0))])) [] [] [(Ai,its)]:=⟨K12.out.ks.below hb13,fun q hq=>(K12.out.it q hq).below hb13⟩
 have hst:=strange_any w w13 b bw D w12.heap.size H12 H8 N4 N1 k13.ks.bp.at' (HVL.out w13 fun q hq=>(k13.ks.kx.kp q (List.mem_append.2 (.inl hq))).1) Hup4.out Hup1.out hd8 2 its Ai ci (k13.it (Ai,its) (by simp)).rdc hci hil (cell_of_row w13 w12.heap.size 0 _ _ _ hp8) (cell_of_row w13 w12.heap.size 1 _ _ _ hp8)
 (with_reducible refine hst.mono ?_)
 rintro e w14 ⟨sv,rfl,hb14,hfine⟩
 have K14:=Lib.hid ((k13.ks.less (K':=[(gl,Obj.cells (lv.map Value.bool).toArray 4 (0,0)),(gb,Obj.cells #[.int .i64 l,.int .i64 (D:Int),.int .i64 c] 24 (0,0))]) (R':=[]) (S':=[]) (fun q hq=>List.mem_append.2 (.inr (List.mem_cons_of_mem _ hq))) (fun _ h=>h) (fun _ h=>h)).below hb14)
 clear hst k13 hp8 hb13 hw13 K12 HVL hci c0 c1 hb14
 cases sv
 ·have hfin:=hfine rfl
  clear hfine
  go_wp2_with fail
  (with_reducible refine (CL1.out _).mono ?_);rintro e w15 ⟨rfl,h15⟩
  obtain rfl:w14=w15:=h15.symm
  clear h15
  by_cases hq:q2=0
  ·subst hq
   obtain ⟨g1,g2,g3⟩:=K14.out.gat (g:=gb) (l:=l) (d:=(D:Int)) (c:=c) (t:=24) (f:=(0,0)) (by simp)
   have CFa:=ks_fail K14.out (d1:Int) ⟨by omega,by omega⟩
   replace CFa:=Lib.hid CFa
   go_wp2_with fail
   (with_reducible refine (CL2.out _).mono ?_);rintro e w16 ⟨rfl,h16⟩
   obtain rfl:w14=w16:=h16.symm
   clear h16
   go_wp2_with fail
   (with_reducible refine CFa.out.mono ?_);rintro e w17 ⟨rfl,H17,k17⟩
   have K17:=Lib.hid k17
   clear k17 CFa g1 g2 g3 K14
   have i0:(0:Int) ≤ (d1:Int):=by omega
   have i1:(d1:Int) < (D:Int):=by omega
   have hdD:d1 < D:=by omega
   have hblk:=(K17.out.kx.kp (gl,Obj.cells (lv.map Value.bool).toArray 4 (0,0)) (by simp)).1
   dsimp only at hblk
   obtain ⟨hc0,hfz0,hb2,gg2⟩:=lv_setCell hblk (d:=d1) (by rw [hll];exact hdD) false
   have KN:=Lib.hid (K17.out.put gg2 hb2 (by simpa using Ne.symm hgne))
   have hll5:(lv.set d1 false).length=D:=by rw [List.length_set];exact hll
   have hfg:=fail_good Hg4.out (d:=d1) (by rw [hn4];exact hdD)
   have hn5:(N4.fail (d1:Int)).n=D:=hfg.n.trans hn4
   have hg5:=hfg.good
   have hdone5:(N4.fail (d1:Int)).done ≤ 800000:=by have:=hfg.done;omega
   have hoj:∀ j,j ≠ d1→(N4.fail (d1:Int)).D j=N4.D j:=fun j hj=>by rw [fail_D (by rw [hn4];exact hdD),if_neg hj]
   have CF2:=HCF3.out (N4.fail (d1:Int)) (lv.set d1 false) hfin hn5 hg5 (fun j hj=>by
    by_cases e:j=d1
    ·right;rw [e];exact hfg.at'
    ·exact .inl (hoj j e)) ⟨d1,fun j hj hne=>⟨hoj j hne,HlvS.out j hj hne⟩⟩
   go_upto_region 25 with fail
   generalize w17.setCell ⟨gl,d1,none⟩ (.bool false)=w18 at KN ⊢
   clear hc0 hfz0 hblk hb2 gg2 K17 hfg hoj HCF3 hfin
   generalize lv.set d1 false=lv5 at *
   generalize N4.fail (d1:Int)=N5 at *
   obtain ⟨HSrv,hfound⟩:=CF2
   have HSrv:=Lib.hid HSrv
   have Hgood:=Lib.hid hg5
   rcases hfound with ⟨hget,hdn,ha5⟩ | ⟨s,li,dsF,hget,hfnd,hds⟩
   ·have Ha5:=Lib.hid ha5
    have Hcnt:=Lib.hid (show ((cntB D (fun i=>!srvD N5 lv5 i):Nat):Int) ≤ l - 4 by
     obtain ⟨d,hd⟩:=HSrv.out
     have h1:=cnt_le1 hd
     have:=Gr'.out.lv;omega)
    clear ha5
    refine ucR _ _ _ _ _ _ _ _ _ _ _ _ _ _ _ _ _ _ _ _ _ _ _ _ _ _ _ _ _ _ _ _ _ _ _ _ _ _ _ _ _ _ _ _ _ _ _ _ _ _ _ _ _ _ _ _ _ _ _ _ _ _ _ _ _ _ _ _ _ _ _ _ _ _ _ _ _ _ _ _ _ _ _ _ _ _ _ _ _ _ _ _ _ _ _ _ _ _ _ _ _ _ _ _ _ _ _ _ _ _ _ _ _ _ _ _ _ _ _ _ _ _ _ _ _ _ _ _ _ _ _ _ _ _ _ _ _ _ _ _ _ _ _ _ _ _ _ _ _ _ _ _ _ _ _ _ _ _ _ _ _ _ _ _ _ _ _ _ _ _ _ _ _ _ _ _ _ _ _ _ _ _ _ _ _ _ _ _ _ _ _ _ _ _ _ _ _ _ _ _ _ _ _ _ _ _ _ _ _ _ _ _ _ (f:=false) ht KN.out hll5 hd8 hget (by decide) (fun v125 v126 v127 v128 v129 v130 p9 A9 c9 V9 k9 hc9=>?_)
    refine ‹∀ (a:Act) (w:World),Code.wp Tryz.prog _ _ a w→_› _ _ ?_
    have K9:=Lib.hid (k9.ks.less (K':=[(gl,Obj.cells (lv5.map Value.bool).toArray 4 (0,0)),(gb,Obj.cells #[.int .i64 l,.int .i64 (D:Int),.int .i64 c] 24 (0,0))]) (R':=[]) (S':=[]) (fun p hp=>List.mem_cons_of_mem _ hp) (fun _ h=>h) (fun _ h=>h))
    clear k9
    refine ucF0 _ _ _ _ _ _ _ _ _ _ _ _ _ _ _ _ _ _ _ _ _ _ _ _ _ _ _ _ _ _ _ _ _ _ _ _ _ _ _ _ _ _ _ _ _ _ _ _ _ _ _ _ _ _ _ _ _ _ _ _ _ _ _ _ _ _ _ _ _ _ _ _ _ _ _ _ _ _ _ _ _ _ _ _ _ _ _ _ _ _ _ _ _ _ _ _ _ _ _ _ _ _ _ _ _ _ _ _ _ _ _ _ _ _ _ _ _ _ _ _ _ _ _ _ _ _ _ _ _ _ _ _ _ _ _ _ _ _ _ _ _ _ _ _ _ _ _ _ _ _ _ _ _ _ _ _ _ _ _ _ _ _ _ _ _ _ _ _ _ _ _ _ _ _ _ _ _ _ _ _ _ _ _ _ _ _ _ _ _ _ _ _ _ _ _ _ _ _ _ _ _ _ _ _ _ _ _ _ _ _ _ _ _ _ (fun v14 v131 v132 v133 v134 v135 v136 v137 v138 v139 v140 v141 v142 v143=>?_)
    refine ‹∀ (a:Act) (w:World),Code.wp Tryz.prog _ _ a w→_› _ _ ?_
    refine ucT _ _ _ _ _ _ _ _ _ _ _ _ _ _ _ _ _ _ _ _ _ _ _ _ _ _ _ _ _ _ _ _ _ _ _ _ _ _ _ _ _ _ _ _ _ _ _ _ _ _ _ _ _ _ _ _ _ _ _ _ _ _ _ _ _ _ _ _ _ _ _ _ _ _ _ _ _ _ _ _ _ _ _ _ _ _ _ _ _ _ _ _ _ _ _ _ _ _ _ _ _ _ _ _ _ _ _ _ _ _ _ _ _ _ _ _ _ _ _ _ _ _ _ _ _ _ _ _ _ _ _ _ _ _ _ _ _ _ _ _ _ _ _ _ _ _ _ _ _ _ _ _ _ _ _ _ _ _ _ _ _ _ _ _ _ _ _ _ _ _ _ _ _ _ _ _ _ _ _ _ _ _ _ _ _ _ _ _ _ _ _ _ _ _ _ _ _ _ _ _ _ _ _ _ _ _ _ hp Gr'.out hcl Hzl.out hll5 Ha5.out Hcnt.out hρ hkW hplN hxz hxe (.inr ⟨rfl,hdn⟩) K9.out (fun v0 v1 v2 v3 v4 v5 v6 v7 v8 v9 v10 v11 v12 v13 v15 v16 v17 v18 v19 v20 v21 v22 v23 v24 v25 v26 v27 v28 v29 v30 v31 v32 v33 v34 v35 v36 v37 v38 v39 v40 v41 v42 v43 v44 v45 v46 v47 v48 v49 v50 v51 v52 v53 v54 v55 v56 v57 v58 v59 v60 v61 v62 v63 v64 v65 v66 v67 v68 v69 v70 v71 v72 v73 v74 v75 v76 v77 v78 v79 v80 v81 v82 v83 v84 v85 v86 v87 v88 v89 v90 v91 v92 v93 v94 v95 v96 v97 v98 v99 v100 v101 v102 v103 v104 v105 v106 v107 v108 v109 v110 v111 v112 v113 v114 v115 v116 v117 v118 v119 v120 v121 v122 v123 v124 v125 v126 v127 v128 v129 v130 v131 v132 v133 v134 v135 v136 v137 v138 v139 v140 v141 v142 v143 v144 v145 v146 v147 v148 v149 v150 v151 v152 v153 v154 v155 v156 v157 v158 v159 v160 v161 v162 v163 v164 v165 v166 v167 v168 v169 v170 v171 v172 v173 v174 v175 v176 v177 v178 v179 v180 v181 v182 v183 v184 v185 v186 v187 v188 v189 v190 v191 v192 v193 v194 v195 v196 v197 v198 v199 v200 v201 v202 v203 v204 v205 v206 v207 v208 v209 v210 v211 v212 V hb=>?_)
    go_ret
    exact ⟨rfl,hb⟩
   ·have Hf:=Lib.hid hfnd
    have hs0:decide (0 < s)=true:=decide_eq_true (by have:=hfnd.s64;omega)
    have Hcnt:=Lib.hid (show ((cntB D (fun i=>!srvD (appS (putS N5 lv5 s li).2 lv5 s li).2 lv5 i):Nat):Int) ≤ l - 4 by
     obtain ⟨d,hd⟩:=HSrv.out
     have h1:=cnt_le1 (N:=(appS (putS N5 lv5 s li).2 lv5 s li).2) (D:=D) (d:=d) (lv:=lv5) (fun i hi hne=>by
      rw [srvD_congr (N:=N5) (hfnd.arr.st.n.trans hn5.symm) (hfnd.f i hi)];exact hd i hi hne)
     have:=Gr'.out.lv;omega)
    have hds:=Lib.hid hds
    clear hfnd
    refine ucR _ _ _ _ _ _ _ _ _ _ _ _ _ _ _ _ _ _ _ _ _ _ _ _ _ _ _ _ _ _ _ _ _ _ _ _ _ _ _ _ _ _ _ _ _ _ _ _ _ _ _ _ _ _ _ _ _ _ _ _ _ _ _ _ _ _ _ _ _ _ _ _ _ _ _ _ _ _ _ _ _ _ _ _ _ _ _ _ _ _ _ _ _ _ _ _ _ _ _ _ _ _ _ _ _ _ _ _ _ _ _ _ _ _ _ _ _ _ _ _ _ _ _ _ _ _ _ _ _ _ _ _ _ _ _ _ _ _ _ _ _ _ _ _ _ _ _ _ _ _ _ _ _ _ _ _ _ _ _ _ _ _ _ _ _ _ _ _ _ _ _ _ _ _ _ _ _ _ _ _ _ _ _ _ _ _ _ _ _ _ _ _ _ _ _ _ _ _ _ _ _ _ _ _ _ _ _ _ _ _ _ _ _ ht KN.out hll5 hd8 hget hs0 (fun v125 v126 v127 v128 v129 v130 p9 A9 c9 V9 k9 hc9=>?_)
    refine ‹∀ (a:Act) (w:World),Code.wp Tryz.prog _ _ a w→_› _ _ ?_
    refine ucF1 _ _ _ _ _ _ _ _ _ _ _ _ _ _ _ _ _ _ _ _ _ _ _ _ _ _ _ _ _ _ _ _ _ _ _ _ _ _ _ _ _ _ _ _ _ _ _ _ _ _ _ _ _ _ _ _ _ _ _ _ _ _ _ _ _ _ _ _ _ _ _ _ _ _ _ _ _ _ _ _ _ _ _ _ _ _ _ _ _ _ _ _ _ _ _ _ _ _ _ _ _ _ _ _ _ _ _ _ _ _ _ _ _ _ _ _ _ _ _ _ _ _ _ _ _ _ _ _ _ _ _ _ _ _ _ _ _ _ _ _ _ _ _ _ _ _ _ _ _ _ _ _ _ _ _ _ _ _ _ _ _ _ _ _ _ _ _ _ _ _ _ _ _ _ _ _ _ _ _ _ _ _ _ _ _ _ _ _ _ _ _ _ _ _ _ _ _ _ _ _ _ _ _ _ _ _ _ _ _ _ _ ht Gr'.out k9 hc9 hll5 hn5 Hgood.out hdone5 Hf.out (fun v14 v131 v132 v133 v134 v135 v136 v137 v138 v139 v140 v141 v142 v143 H10 V10 k10=>?_)
    refine ‹∀ (a:Act) (w:World),Code.wp Tryz.prog _ _ a w→_› _ _ ?_
    refine ucT _ _ _ _ _ _ _ _ _ _ _ _ _ _ _ _ _ _ _ _ _ _ _ _ _ _ _ _ _ _ _ _ _ _ _ _ _ _ _ _ _ _ _ _ _ _ _ _ _ _ _ _ _ _ _ _ _ _ _ _ _ _ _ _ _ _ _ _ _ _ _ _ _ _ _ _ _ _ _ _ _ _ _ _ _ _ _ _ _ _ _ _ _ _ _ _ _ _ _ _ _ _ _ _ _ _ _ _ _ _ _ _ _ _ _ _ _ _ _ _ _ _ _ _ _ _ _ _ _ _ _ _ _ _ _ _ _ _ _ _ _ _ _ _ _ _ _ _ _ _ _ _ _ _ _ _ _ _ _ _ _ _ _ _ _ _ _ _ _ _ _ _ _ _ _ _ _ _ _ _ _ _ _ _ _ _ _ _ _ _ _ _ _ _ _ _ _ _ _ _ _ _ _ _ _ _ _ hp Gr'.out hcl Hzl.out hll5 Hf.out.arr Hcnt.out hρ hkW hplN hxz hxe hds.out k10 (fun v0 v1 v2 v3 v4 v5 v6 v7 v8 v9 v10 v11 v12 v13 v15 v16 v17 v18 v19 v20 v21 v22 v23 v24 v25 v26 v27 v28 v29 v30 v31 v32 v33 v34 v35 v36 v37 v38 v39 v40 v41 v42 v43 v44 v45 v46 v47 v48 v49 v50 v51 v52 v53 v54 v55 v56 v57 v58 v59 v60 v61 v62 v63 v64 v65 v66 v67 v68 v69 v70 v71 v72 v73 v74 v75 v76 v77 v78 v79 v80 v81 v82 v83 v84 v85 v86 v87 v88 v89 v90 v91 v92 v93 v94 v95 v96 v97 v98 v99 v100 v101 v102 v103 v104 v105 v106 v107 v108 v109 v110 v111 v112 v113 v114 v115 v116 v117 v118 v119 v120 v121 v122 v123 v124 v125 v126 v127 v128 v129 v130 v131 v132 v133 v134 v135 v136 v137 v138 v139 v140 v141 v142 v143 v144 v145 v146 v147 v148 v149 v150 v151 v152 v153 v154 v155 v156 v157 v158 v159 v160 v161 v162 v163 v164 v165 v166 v167 v168 v169 v170 v171 v172 v173 v174 v175 v176 v177 v178 v179 v180 v181 v182 v183 v184 v185 v186 v187 v188 v189 v190 v191 v192 v193 v194 v195 v196 v197 v198 v199 v200 v201 v202 v203 v204 v205 v206 v207 v208 v209 v210 v211 v212 V hb=>?_)
    go_ret
    exact ⟨rfl,hb⟩
  ·have em:(q2 == 0)=false:=by rw [beq_eq_false_iff_ne];exact hq
   have CF2:=HCF3.out N4 lv hfin hn4 Hg4.out (fun j hj=>.inl rfl) ⟨D,fun j hj _=>⟨rfl,Hlive.out j hj⟩⟩
   have hll5:=hll
   have hn5:=hn4
   have hg5:=Hg4.out
   have hdone5:N4.done ≤ 800000:=by omega
   go_upto_region 25 with fail
   have KN:=Lib.hid K14.out
   clear HCF3 hfin em hq K14
   have HlvS:=Lib.hid True.intro
   clear HlvS
   generalize lv=lv5 at *
   generalize N4=N5 at *
   obtain ⟨HSrv,hfound⟩:=CF2
   have HSrv:=Lib.hid HSrv
   have Hgood:=Lib.hid hg5
   rcases hfound with ⟨hget,hdn,ha5⟩ | ⟨s,li,dsF,hget,hfnd,hds⟩
   ·have Ha5:=Lib.hid ha5
    have Hcnt:=Lib.hid (show ((cntB D (fun i=>!srvD N5 lv5 i):Nat):Int) ≤ l - 4 by
     obtain ⟨d,hd⟩:=HSrv.out
     have h1:=cnt_le1 hd
     have:=Gr'.out.lv;omega)
    clear ha5
    refine ucR _ _ _ _ _ _ _ _ _ _ _ _ _ _ _ _ _ _ _ _ _ _ _ _ _ _ _ _ _ _ _ _ _ _ _ _ _ _ _ _ _ _ _ _ _ _ _ _ _ _ _ _ _ _ _ _ _ _ _ _ _ _ _ _ _ _ _ _ _ _ _ _ _ _ _ _ _ _ _ _ _ _ _ _ _ _ _ _ _ _ _ _ _ _ _ _ _ _ _ _ _ _ _ _ _ _ _ _ _ _ _ _ _ _ _ _ _ _ _ _ _ _ _ _ _ _ _ _ _ _ _ _ _ _ _ _ _ _ _ _ _ _ _ _ _ _ _ _ _ _ _ _ _ _ _ _ _ _ _ _ _ _ _ _ _ _ _ _ _ _ _ _ _ _ _ _ _ _ _ _ _ _ _ _ _ _ _ _ _ _ _ _ _ _ _ _ _ _ _ _ _ _ _ _ _ _ _ _ _ _ _ _ _ (f:=false) ht KN.out hll5 hd8 hget (by decide) (fun v125 v126 v127 v128 v129 v130 p9 A9 c9 V9 k9 hc9=>?_)
    refine ‹∀ (a:Act) (w:World),Code.wp Tryz.prog _ _ a w→_› _ _ ?_
    have K9:=Lib.hid (k9.ks.less (K':=[(gl,Obj.cells (lv5.map Value.bool).toArray 4 (0,0)),(gb,Obj.cells #[.int .i64 l,.int .i64 (D:Int),.int .i64 c] 24 (0,0))]) (R':=[]) (S':=[]) (fun p hp=>List.mem_cons_of_mem _ hp) (fun _ h=>h) (fun _ h=>h))
    clear k9
    refine ucF0 _ _ _ _ _ _ _ _ _ _ _ _ _ _ _ _ _ _ _ _ _ _ _ _ _ _ _ _ _ _ _ _ _ _ _ _ _ _ _ _ _ _ _ _ _ _ _ _ _ _ _ _ _ _ _ _ _ _ _ _ _ _ _ _ _ _ _ _ _ _ _ _ _ _ _ _ _ _ _ _ _ _ _ _ _ _ _ _ _ _ _ _ _ _ _ _ _ _ _ _ _ _ _ _ _ _ _ _ _ _ _ _ _ _ _ _ _ _ _ _ _ _ _ _ _ _ _ _ _ _ _ _ _ _ _ _ _ _ _ _ _ _ _ _ _ _ _ _ _ _ _ _ _ _ _ _ _ _ _ _ _ _ _ _ _ _ _ _ _ _ _ _ _ _ _ _ _ _ _ _ _ _ _ _ _ _ _ _ _ _ _ _ _ _ _ _ _ _ _ _ _ _ _ _ _ _ _ _ _ _ _ _ _ _ (fun v14 v131 v132 v133 v134 v135 v136 v137 v138 v139 v140 v141 v142 v143=>?_)
    refine ‹∀ (a:Act) (w:World),Code.wp Tryz.prog _ _ a w→_› _ _ ?_
    refine ucT _ _ _ _ _ _ _ _ _ _ _ _ _ _ _ _ _ _ _ _ _ _ _ _ _ _ _ _ _ _ _ _ _ _ _ _ _ _ _ _ _ _ _ _ _ _ _ _ _ _ _ _ _ _ _ _ _ _ _ _ _ _ _ _ _ _ _ _ _ _ _ _ _ _ _ _ _ _ _ _ _ _ _ _ _ _ _ _ _ _ _ _ _ _ _ _ _ _ _ _ _ _ _ _ _ _ _ _ _ _ _ _ _ _ _ _ _ _ _ _ _ _ _ _ _ _ _ _ _ _ _ _ _ _ _ _ _ _ _ _ _ _ _ _ _ _ _ _ _ _ _ _ _ _ _ _ _ _ _ _ _ _ _ _ _ _ _ _ _ _ _ _ _ _ _ _ _ _ _ _ _ _ _ _ _ _ _ _ _ _ _ _ _ _ _ _ _ _ _ _ _ _ _ _ _ _ _ hp Gr'.out hcl Hzl.out hll5 Ha5.out Hcnt.out hρ hkW hplN hxz hxe (.inr ⟨rfl,hdn⟩) K9.out (fun v0 v1 v2 v3 v4 v5 v6 v7 v8 v9 v10 v11 v12 v13 v15 v16 v17 v18 v19 v20 v21 v22 v23 v24 v25 v26 v27 v28 v29 v30 v31 v32 v33 v34 v35 v36 v37 v38 v39 v40 v41 v42 v43 v44 v45 v46 v47 v48 v49 v50 v51 v52 v53 v54 v55 v56 v57 v58 v59 v60 v61 v62 v63 v64 v65 v66 v67 v68 v69 v70 v71 v72 v73 v74 v75 v76 v77 v78 v79 v80 v81 v82 v83 v84 v85 v86 v87 v88 v89 v90 v91 v92 v93 v94 v95 v96 v97 v98 v99 v100 v101 v102 v103 v104 v105 v106 v107 v108 v109 v110 v111 v112 v113 v114 v115 v116 v117 v118 v119 v120 v121 v122 v123 v124 v125 v126 v127 v128 v129 v130 v131 v132 v133 v134 v135 v136 v137 v138 v139 v140 v141 v142 v143 v144 v145 v146 v147 v148 v149 v150 v151 v152 v153 v154 v155 v156 v157 v158 v159 v160 v161 v162 v163 v164 v165 v166 v167 v168 v169 v170 v171 v172 v173 v174 v175 v176 v177 v178 v179 v180 v181 v182 v183 v184 v185 v186 v187 v188 v189 v190 v191 v192 v193 v194 v195 v196 v197 v198 v199 v200 v201 v202 v203 v204 v205 v206 v207 v208 v209 v210 v211 v212 V hb=>?_)
    go_ret
    exact ⟨rfl,hb⟩
   ·have Hf:=Lib.hid hfnd
    have hs0:decide (0 < s)=true:=decide_eq_true (by have:=hfnd.s64;omega)
    have Hcnt:=Lib.hid (show ((cntB D (fun i=>!srvD (appS (putS N5 lv5 s li).2 lv5 s li).2 lv5 i):Nat):Int) ≤ l - 4 by
     obtain ⟨d,hd⟩:=HSrv.out
     have h1:=cnt_le1 (N:=(appS (putS N5 lv5 s li).2 lv5 s li).2) (D:=D) (d:=d) (lv:=lv5) (fun i hi hne=>by
      rw [srvD_congr (N:=N5) (hfnd.arr.st.n.trans hn5.symm) (hfnd.f i hi)];exact hd i hi hne)
     have:=Gr'.out.lv;omega)
    have hds:=Lib.hid hds
    clear hfnd
    refine ucR _ _ _ _ _ _ _ _ _ _ _ _ _ _ _ _ _ _ _ _ _ _ _ _ _ _ _ _ _ _ _ _ _ _ _ _ _ _ _ _ _ _ _ _ _ _ _ _ _ _ _ _ _ _ _ _ _ _ _ _ _ _ _ _ _ _ _ _ _ _ _ _ _ _ _ _ _ _ _ _ _ _ _ _ _ _ _ _ _ _ _ _ _ _ _ _ _ _ _ _ _ _ _ _ _ _ _ _ _ _ _ _ _ _ _ _ _ _ _ _ _ _ _ _ _ _ _ _ _ _ _ _ _ _ _ _ _ _ _ _ _ _ _ _ _ _ _ _ _ _ _ _ _ _ _ _ _ _ _ _ _ _ _ _ _ _ _ _ _ _ _ _ _ _ _ _ _ _ _ _ _ _ _ _ _ _ _ _ _ _ _ _ _ _ _ _ _ _ _ _ _ _ _ _ _ _ _ _ _ _ _ _ _ ht KN.out hll5 hd8 hget hs0 (fun v125 v126 v127 v128 v129 v130 p9 A9 c9 V9 k9 hc9=>?_)
    refine ‹∀ (a:Act) (w:World),Code.wp Tryz.prog _ _ a w→_› _ _ ?_
    refine ucF1 _ _ _ _ _ _ _ _ _ _ _ _ _ _ _ _ _ _ _ _ _ _ _ _ _ _ _ _ _ _ _ _ _ _ _ _ _ _ _ _ _ _ _ _ _ _ _ _ _ _ _ _ _ _ _ _ _ _ _ _ _ _ _ _ _ _ _ _ _ _ _ _ _ _ _ _ _ _ _ _ _ _ _ _ _ _ _ _ _ _ _ _ _ _ _ _ _ _ _ _ _ _ _ _ _ _ _ _ _ _ _ _ _ _ _ _ _ _ _ _ _ _ _ _ _ _ _ _ _ _ _ _ _ _ _ _ _ _ _ _ _ _ _ _ _ _ _ _ _ _ _ _ _ _ _ _ _ _ _ _ _ _ _ _ _ _ _ _ _ _ _ _ _ _ _ _ _ _ _ _ _ _ _ _ _ _ _ _ _ _ _ _ _ _ _ _ _ _ _ _ _ _ _ _ _ _ _ _ _ _ _ ht Gr'.out k9 hc9 hll5 hn5 Hgood.out hdone5 Hf.out (fun v14 v131 v132 v133 v134 v135 v136 v137 v138 v139 v140 v141 v142 v143 H10 V10 k10=>?_)
    refine ‹∀ (a:Act) (w:World),Code.wp Tryz.prog _ _ a w→_› _ _ ?_
    refine ucT _ _ _ _ _ _ _ _ _ _ _ _ _ _ _ _ _ _ _ _ _ _ _ _ _ _ _ _ _ _ _ _ _ _ _ _ _ _ _ _ _ _ _ _ _ _ _ _ _ _ _ _ _ _ _ _ _ _ _ _ _ _ _ _ _ _ _ _ _ _ _ _ _ _ _ _ _ _ _ _ _ _ _ _ _ _ _ _ _ _ _ _ _ _ _ _ _ _ _ _ _ _ _ _ _ _ _ _ _ _ _ _ _ _ _ _ _ _ _ _ _ _ _ _ _ _ _ _ _ _ _ _ _ _ _ _ _ _ _ _ _ _ _ _ _ _ _ _ _ _ _ _ _ _ _ _ _ _ _ _ _ _ _ _ _ _ _ _ _ _ _ _ _ _ _ _ _ _ _ _ _ _ _ _ _ _ _ _ _ _ _ _ _ _ _ _ _ _ _ _ _ _ _ _ _ _ _ hp Gr'.out hcl Hzl.out hll5 Hf.out.arr Hcnt.out hρ hkW hplN hxz hxe hds.out k10 (fun v0 v1 v2 v3 v4 v5 v6 v7 v8 v9 v10 v11 v12 v13 v15 v16 v17 v18 v19 v20 v21 v22 v23 v24 v25 v26 v27 v28 v29 v30 v31 v32 v33 v34 v35 v36 v37 v38 v39 v40 v41 v42 v43 v44 v45 v46 v47 v48 v49 v50 v51 v52 v53 v54 v55 v56 v57 v58 v59 v60 v61 v62 v63 v64 v65 v66 v67 v68 v69 v70 v71 v72 v73 v74 v75 v76 v77 v78 v79 v80 v81 v82 v83 v84 v85 v86 v87 v88 v89 v90 v91 v92 v93 v94 v95 v96 v97 v98 v99 v100 v101 v102 v103 v104 v105 v106 v107 v108 v109 v110 v111 v112 v113 v114 v115 v116 v117 v118 v119 v120 v121 v122 v123 v124 v125 v126 v127 v128 v129 v130 v131 v132 v133 v134 v135 v136 v137 v138 v139 v140 v141 v142 v143 v144 v145 v146 v147 v148 v149 v150 v151 v152 v153 v154 v155 v156 v157 v158 v159 v160 v161 v162 v163 v164 v165 v166 v167 v168 v169 v170 v171 v172 v173 v174 v175 v176 v177 v178 v179 v180 v181 v182 v183 v184 v185 v186 v187 v188 v189 v190 v191 v192 v193 v194 v195 v196 v197 v198 v199 v200 v201 v202 v203 v204 v205 v206 v207 v208 v209 v210 v211 v212 V hb=>?_)
    go_ret
    exact ⟨rfl,hb⟩
 ·clear hfine
  go_wp2_with (first
   |(go_at_call 21
     (with_reducible refine (HWk.out _).mono ?_)
     rintro e w20 ⟨rfl,hb20⟩
     have F20:=Lib.hid (K14.out.bp.bel.trans (hb20.mono K14.out.bp.bel.size))
     clear hb20))
  go_ret
  exact ⟨rfl,F20.out⟩
end Go.Proofs.YtenkkdnepmoihaaGreatDoor
end
