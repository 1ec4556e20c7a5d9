/- Texts put together: WindowMovesD, WindowMovesLaw. -/
import Derived.Test.YtldfoadildaljaaGreatWmbs
import Derived.Test.YtldfoadildaljaaGreatWmbn
import Derived.Test.YtldfoadildaljaaGreatWmal
import Derived.Test.YtldfoadildaljaaGreatWmbo
import Derived.Test.YtldfoadildaljaaGreatWmai
import Derived.Carry
section
set_option maxRecDepth 20000
set_option linter.unusedVariables false
set_option linter.unusedSimpArgs false
namespace Go.Proofs.YtldfoadildaljaaGreat
open Go.RowKit
theorem map_snoc (f:Int→List UInt8) (zs:List Int) {j:Nat} (hj:j < zs.length):(zs.take (j + 1)).map f=(zs.take j).map f ++ [f (zs.getD j 0)]:=by
 rw [List.take_succ_eq_append_getElem hj,List.map_append]
 simp [hj]
set_option maxRecDepth 100000 in
set_option maxHeartbeats 3200000 in
theorem wmEb {W0 ws:World} {n0 l c l' c':Int} {D D' F' W' ρ b mb gn cn:Nat} {zs:List Int} {curn:Array Value} {KL:List (Nat × Obj)} {S:List (Option Addr × List UInt8)} {o:Obj} {Mp:Int→Option Value} {H:BH} {M:Bch} {kx:Nat} {dv:Value} {vs:List Value} {w:World} (u0 u1 u2 u3 u4 u5 u6 u7 u8 u9 u10 u11 u12 u13 u15 u16 u17 u18 u19 u20 u21 u22 u23 u24 u25 u26 u28 u29 u30 u31 u32 u33 u34 u35 u36 u37 u38 u39 u40 u41 u42 u43 u44 u45 u46 u47 u48 u49 u50 u51 u52 u53 u54 u55 u56 u57 u58 u59 u60 u61 u62 u63 u64 u65 u66 u67 u68 u69 u70 u71 u72 u73 u74 u75 u76 u77 u78 u79 u80 u81 u82 u83 u84 u85 u86 u87 u88 u89 u90 u91 u92 u93 u94 u95 u96 u97 u98 u99 u100 u101 u102 u103 u104 u105 u106 u107 u108 u109 u110 u111 u112 u113 u114 u115 u116 u117 u118 u119 u120 u121 u122 u123 u124 u125 u126 u127 u128 u129 u130 u131 u132 u133 u134 u135 u136 u137 u138 u139 u140 u141 u142 u143 u144 u145 u146 u147 u148 u149 u150 u151 u152 u153 u154 u155 u156 u157 u158 u159 u160 u161 u162 u163 u167 u168 u169 u170 u171 u172 u173 u174 u175 u176 u177 u178 u179 u180 u181 u182 u183 u184 u185 u186 u187 u188 u189 u190 u191 u192 u193 u194 u195 u196 u197 u198 u199 u200 u201 u202 u203 u204 u205 u206 u207 u208 u209 u210 u211 u212 u213 u214 u215 u216 u217 u218 u219 u220:Value) (K:Act→World→Prop) (Q0:Exit→Act→World→Prop) (hg:gOk l (D:Int) c=true) (hM:(mb,o) ∈ KL) (hmap:∀ U:World,U.heap[mb]?=some o→∃ m,MapV U mb m Mp) (hF:WmF l D c (roW l (D:Int)) zs Mp S 16 0) (gr:Gr n0 l' c' (ρ:Int) D' F' W') (hN:(gn,Obj.cells curn 3 (0,0)) ∈ KL) (hcur:∀ k:Nat,k < W'→curn[k]?=some (.int .i64 (plN l' (D':Int) c' (ρ:Int) (k:Int)))) (hks:KS W0 ws b H M KL [] S) (hI:(kx ≤ W'∧w.ownsRow ws.heap.size 48 1 dv kx vs∧RowsX w w.heap.size (Value.ownBlock dv) vs (((plNums l' (D':Int) c' (ρ:Int)).take kx).map (upTo (gCap l (D:Int) c) (valOf l (D:Int) c (fun t=>datL zs t (roW l (D:Int))))))∧Below ws.heap.size ws w))
    (hK:∀ (v29 v30 v167 v168 v169 v170 v171 v172 v173 v174 v175 v176 v177 v178 v179 v180:Value) (dv2:Value) (vs2:List Value) (V:World),((kx + 1) ≤ W'∧V.ownsRow ws.heap.size 48 1 dv2 (kx + 1) vs2∧RowsX V V.heap.size (Value.ownBlock dv2) vs2 (((plNums l' (D':Int) c' (ρ:Int)).take (kx + 1)).map (upTo (gCap l (D:Int) c) (valOf l (D:Int) c (fun t=>datL zs t (roW l (D:Int))))))∧Below ws.heap.size ws V)→W' - (kx + 1) < W' - kx→K ⟨List.toArray (u0::u1::u2::u3::u4::u5::u6::u7::u8::u9::u10::u11::u12::u13::(.map (some mb))::u15::u16::u17::u18::u19::u20::u21::u22::u23::u24::u25::u26::dv2::u28::v29::v30::u31::u32::u33::u34::u35::u36::u37::u38::u39::u40::u41::u42::u43::u44::u45::u46::u47::u48::u49::u50::u51::u52::u53::u54::u55::u56::u57::u58::u59::u60::u61::u62::u63::u64::u65::u66::u67::u68::u69::u70::u71::u72::u73::u74::u75::u76::u77::u78::u79::u80::u81::u82::u83::u84::u85::u86::u87::u88::u89::u90::u91::u92::u93::u94::u95::u96::u97::u98::u99::u100::u101::u102::u103::u104::u105::u106::u107::u108::u109::u110::u111::u112::u113::u114::u115::u116::u117::u118::u119::u120::u121::u122::u123::u124::u125::u126::u127::u128::u129::u130::u131::u132::u133::u134::u135::u136::u137::u138::u139::u140::u141::u142::u143::u144::u145::u146::u147::u148::u149::u150::u151::u152::u153::u154::u155::u156::u157::u158::u159::u160::u161::u162::u163::(.slice (some ⟨gn,0,none⟩) W' cn)::(.int .i64 (W':Int))::(.int .i64 (((kx + 1):Nat):Int))::v167::v168::v169::v170::v171::v172::v173::v174::v175::v176::v177::v178::v179::v180::u181::u182::u183::u184::u185::u186::u187::u188::u189::u190::u191::u192::u193::u194::u195::u196::u197::u198::u199::u200::u201::u202::u203::u204::u205::u206::u207::u208::u209::u210::u211::u212::u213::u214::u215::u216::u217::u218::u219::u220::[]),[]⟩ V)
    (hX:∀ (v29 v30 v167 v168 v169 v170 v171 v172 v173 v174 v175 v176 v177 v178 v179 v180:Value),(kx=W')→Q0 (.exit 10) ⟨List.toArray (u0::u1::u2::u3::u4::u5::u6::u7::u8::u9::u10::u11::u12::u13::(.map (some mb))::u15::u16::u17::u18::u19::u20::u21::u22::u23::u24::u25::u26::dv::u28::v29::v30::u31::u32::u33::u34::u35::u36::u37::u38::u39::u40::u41::u42::u43::u44::u45::u46::u47::u48::u49::u50::u51::u52::u53::u54::u55::u56::u57::u58::u59::u60::u61::u62::u63::u64::u65::u66::u67::u68::u69::u70::u71::u72::u73::u74::u75::u76::u77::u78::u79::u80::u81::u82::u83::u84::u85::u86::u87::u88::u89::u90::u91::u92::u93::u94::u95::u96::u97::u98::u99::u100::u101::u102::u103::u104::u105::u106::u107::u108::u109::u110::u111::u112::u113::u114::u115::u116::u117::u118::u119::u120::u121::u122::u123::u124::u125::u126::u127::u128::u129::u130::u131::u132::u133::u134::u135::u136::u137::u138::u139::u140::u141::u142::u143::u144::u145::u146::u147::u148::u149::u150::u151::u152::u153::u154::u155::u156::u157::u158::u159::u160::u161::u162::u163::(.slice (some ⟨gn,0,none⟩) W' cn)::(.int .i64 (W':Int))::(.int .i64 ((kx:Nat):Int))::v167::v168::v169::v170::v171::v172::v173::v174::v175::v176::v177::v178::v179::v180::u181::u182::u183::u184::u185::u186::u187::u188::u189::u190::u191::u192::u193::u194::u195::u196::u197::u198::u199::u200::u201::u202::u203::u204::u205::u206::u207::u208::u209::u210::u211::u212::u213::u214::u215::u216::u217::u218::u219::u220::[]),[]⟩ w) :
    Code.wp Tryz.prog (sub [1,1,1,1,1,1,1,1,1,1,0,1,0,0,1,0,0,1,0,1,0,0] codeWM) (Exit.then K Q0) ⟨List.toArray (u0::u1::u2::u3::u4::u5::u6::u7::u8::u9::u10::u11::u12::u13::(.map (some mb))::u15::u16::u17::u18::u19::u20::u21::u22::u23::u24::u25::u26::dv::u28::u29::u30::u31::u32::u33::u34::u35::u36::u37::u38::u39::u40::u41::u42::u43::u44::u45::u46::u47::u48::u49::u50::u51::u52::u53::u54::u55::u56::u57::u58::u59::u60::u61::u62::u63::u64::u65::u66::u67::u68::u69::u70::u71::u72::u73::u74::u75::u76::u77::u78::u79::u80::u81::u82::u83::u84::u85::u86::u87::u88::u89::u90::u91::u92::u93::u94::u95::u96::u97::u98::u99::u100::u101::u102::u103::u104::u105::u106::u107::u108::u109::u110::u111::u112::u113::u114::u115::u116::u117::u118::u119::u120::u121::u122::u123::u124::u125::u126::u127::u128::u129::u130::u131::u132::u133::u134::u135::u136::u137::u138::u139::u140::u141::u142::u143::u144::u145::u146::u147::u148::u149::u150::u151::u152::u153::u154::u155::u156::u157::u158::u159::u160::u161::u162::u163::(.slice (some ⟨gn,0,none⟩) W' cn)::(.int .i64 (W':Int))::(.int .i64 ((kx:Nat):Int))::u167::u168::u169::u170::u171::u172::u173::u174::u175::u176::u177::u178::u179::u180::u181::u182::u183::u184::u185::u186::u187::u188::u189::u190::u191::u192::u193::u194::u195::u196::u197::u198::u199::u200::u201::u202::u203::u204::u205::u206::u207::u208::u209::u210::u211::u212::u213::u214::u215::u216::u217::u218::u219::u220::[]),[]⟩ w:=by
 have HK:=Lib.hid hK
 have HX:=Lib.hid hX
 clear hK hX
 conv=>arg 2;whnf
 obtain ⟨hkW,hown,hrows,hbr⟩:=hI
 have hw7:=gr.w7
 have hwd:=gr.wd
 have hwe:=hwd
 rw [gWid_yes (plOk_yes gr.ok).1] at hwd
 have hzl:(plNums l' (D':Int) c' (ρ:Int)).length=W':=by rw [plNums_len gr.ok,hwe,Int.toNat_natCast]
 by_cases hlt:kx < W'
 ·have i0:(0:Int) ≤ (kx:Int):=by omega
  have i1:(kx:Int) < (W':Int):=by omega
  have hmk:∀ w,(Instr.makeSlice 48 (.int .i64 32) (.int .i64 32)).run Tryz.prog w=.ok (.slice (some ⟨w.heap.size,0,none⟩) 32 32) (w.alloc (.cells (zcells 32) 5)):=make_bytes 32 (by omega)
  have hk:=hks.below hbr
  have hc1:=(cell_of_row w gn kx _ _ _ (hk.kx.kp _ hN).1).trans (hcur kx hlt)
  have hnb:=num_row (plDok_mk (k:=(kx:Int)) gr.ok (by omega) (by omega))
  have hcb:=gCap_bd l' (D':Int) c'
  obtain ⟨m,hmv⟩:=hmap w (hk.kx.kp _ hM).1
  have hlook:=hmv.look (plN l' (D':Int) c' (ρ:Int) (kx:Int)) (by omega)
  have hsn:=map_snoc (upTo (gCap l (D:Int) c) (valOf l (D:Int) c (fun t=>datL zs t (roW l (D:Int))))) (plNums l' (D':Int) c' (ρ:Int)) (show kx < (plNums l' (D':Int) c' (ρ:Int)).length by rw [hzl];exact hlt)
  rw [plNums_get gr.ok (by rw [hwe];omega)] at hsn
  have hs0:=hbr.size
  obtain ⟨z,hze⟩:∃ z,(plN l' (D':Int) c' (ρ:Int) (kx:Int))=z:=⟨_,rfl⟩
  rw [hze] at hc1 hlook hsn hnb
  have hz0:=hnb.1
  rcases hF.all hg hz0 with ⟨hc,A2,cc,hz,hmem⟩ | ⟨hc,hz⟩
  ·rw [hz] at hlook
   have hv:(upTo (gCap l (D:Int) c) (valOf l (D:Int) c (fun t=>datL zs t (roW l (D:Int))))) z=(valOf l (D:Int) c (fun t=>datL zs t (roW l (D:Int)))) z:=if_pos hc
   rw [hv] at hsn
   have hrl:((valOf l (D:Int) c (fun t=>datL zs t (roW l (D:Int)))) z).length=32:=by
    obtain ⟨ρ,q,h1,h2,_,_,_,h4⟩:=num_at hg hz0 hc
    rw [h4];exact dat32 h2
   have Hsn:=Lib.hid hsn
   generalize (valOf l (D:Int) c (fun t=>datL zs t (roW l (D:Int)))) z=row at Hsn hmem hrl
   have hrow:=(hk.sx _ hmem).rdb
   obtain ⟨bq,oq,e6,hbq,_⟩:=(hks.sx _ hmem).2 (by show 0 < row.length;omega)
   dsimp only at e6 hrow hbq
   subst e6
   have hne:0 < row.length→∀ a,some (⟨bq,oq,none⟩:Addr)=some a→some a.block ≠ dv.ownBlock:=fun _ a ha e=>by
    injection ha with ha
    have:=(hown.lt _ e.symm).1
    rw [← ha] at this
    dsimp only at this
    omega
   have Hne:=Lib.hid hne
   have hnl:∀ V,(binOp .eql 48 (.slice (some ⟨bq,oq,none⟩) 32 cc) (.slice none 0 0)).run Tryz.prog V=.ok (.bool false) V:=fun V=>run_eql_slice_nil V _ 5 _ _ _ Tryz.underlying48
   have hlk:(Instr.lookup 56 (.map (some mb)) (.int .i64 z) false).run Tryz.prog w=.ok (.slice (some ⟨bq,oq,none⟩) 32 cc) w:=hlook
   clear HX hk hks hmap hF hM hcur hN hsn hv hz hmem hmv hlook hc hne hze hnb hzl hwe hwd gr hg
   go_wp2_with (at_builtin;refine wpList_append_V rfl _ _ _ rfl ws.heap.size 48 (.slice none 0 0) 24 Tryz.underlying33 info_row rfl _ kx vs rfl (hown.kept (grown_none (below1 w _)) (Classical.em _)) (w.heap.size + 1) (some ⟨w.heap.size,0,none⟩) 1 1 [.slice (some ⟨bq,oq,none⟩) 32 cc] rfl rfl (fun _=>⟨w.heap.size,0,rfl,by omega,fun j hj=>by obtain rfl:j=0:=(by simp at hj;omega);exact cell_of_row _ _ _ _ _ _ (hp_new _ _ _ rfl)⟩) (fun u hu=>by simp at hu;subst hu;rfl) (by unfold maxLen;omega) (by omega) (by simp;omega) ?_;intro v2 w2 hown2 hg2 hat2)
   have hX0:=(hrows.below (below1 w (.cells #[.slice (some ⟨bq,oq,none⟩) 32 cc] 48))).snoc (c:=cc) ((hrow.below (below1 w _) (Nat.le_refl _)).more (by simp)) Hne.out
   rw [hrl] at hX0
   have hX:=hX0.grown hg2 hat2
   have hbw2:=(hbr.alloc hbr.size (.cells #[.slice (some ⟨bq,oq,none⟩) 32 cc] 48)).grown hg2 (by simp;omega) (fun j hj=>(hown.lt j hj).1)
   rw [← Hsn.out] at hX
   have HX2:=Lib.hid hX
   have HO:=Lib.hid hown2
   clear hX hX0 hown2 hg2 hat2 hown hrows hrow Hne Hsn
   go_wp2_with fail
   exact HK.out _ _ _ _ _ _ _ _ _ _ _ _ _ _ _ _ _ _ _ ⟨by omega,HO.out,HX2.out,hbw2⟩ (by omega)
  ·rw [hz] at hlook
   have hv:(upTo (gCap l (D:Int) c) (valOf l (D:Int) c (fun t=>datL zs t (roW l (D:Int))))) z=zeroL 32:=if_neg hc
   rw [hv] at hsn
   have Hsn:=Lib.hid hsn
   have hnl:∀ V,(binOp .eql 48 (.slice none 0 0) (.slice none 0 0)).run Tryz.prog V=.ok (.bool true) V:=fun V=>run_eql_slice_nil V _ 5 _ _ _ Tryz.underlying48
   have hlk:(Instr.lookup 56 (.map (some mb)) (.int .i64 z) false).run Tryz.prog w=.ok (.slice none 0 0) w:=hlook
   have hb0:=below1 w (.cells (zcells 32) 5)
   have hrow0:=(winZero w w.heap.size (Nat.le_refl _)).rdb
   have hrl:(zeroL 32).length=32:=rfl
   have hne:0 < (zeroL 32).length→∀ a,some (⟨w.heap.size,0,none⟩:Addr)=some a→some a.block ≠ dv.ownBlock:=fun _ a ha e=>by
    injection ha with ha
    have:=(hown.lt _ e.symm).2
    rw [← ha] at this
    dsimp only at this
    omega
   have Hne:=Lib.hid hne
   have hown1:=hown.kept (grown_none hb0) (Classical.em _)
   have hrows1:=hrows.below hb0
   have hbr1:=hbr.trans (hb0.mono hs0)
   have hsz:=hb0.size
   obtain ⟨wz,hwz⟩:∃ wz,w.alloc (.cells (zcells 32) 5)=wz:=⟨_,rfl⟩
   clear hown hrows hbr
   have hown:=hown1
   have hrows:=hrows1
   have hbr:=hbr1
   have hrow:=hrow0
   clear hown1 hrows1 hbr1 hrow0
   have hmk2:(Instr.makeSlice 48 (.int .i64 32) (.int .i64 32)).run Tryz.prog w=.ok (.slice (some ⟨w.heap.size,0,none⟩) 32 32) wz:=by rw [← hwz];exact hmk w
   rw [hwz] at hown hrows hbr hrow hsz
   clear HX hk hks hmap hF hM hcur hN hsn hv hz hmv hlook hc hne hze hnb hzl hwe hwd gr hg hmk hb0 hwz
   obtain ⟨gz,hgz⟩:∃ gz,w.heap.size=gz:=⟨_,rfl⟩
   rw [hgz] at Hne hrow hmk2 hs0 hsz
   clear hgz
   have hs1:=hbr.size
   go_wp2_with (at_builtin;refine wpList_append_V rfl _ _ _ rfl ws.heap.size 48 (.slice none 0 0) 24 Tryz.underlying33 info_row rfl _ kx vs rfl (hown.kept (grown_none (below1 wz _)) (Classical.em _)) (wz.heap.size + 1) (some ⟨wz.heap.size,0,none⟩) 1 1 [.slice (some ⟨gz,0,none⟩) 32 32] rfl rfl (fun _=>⟨wz.heap.size,0,rfl,by omega,fun j hj=>by obtain rfl:j=0:=(by simp at hj;omega);exact cell_of_row _ _ _ _ _ _ (hp_new _ _ _ rfl)⟩) (fun u hu=>by simp at hu;subst hu;rfl) (by unfold maxLen;omega) (by omega) (by simp;omega) ?_;intro v2 w2 hown2 hg2 hat2)
   have hX0:=(hrows.below (below1 wz (.cells #[.slice (some ⟨gz,0,none⟩) 32 32] 48))).snoc (c:=32) ((hrow.below (below1 wz _) (Nat.le_refl _)).more (by simp)) Hne.out
   rw [hrl] at hX0
   have hX:=hX0.grown hg2 hat2
   have hbw2:=(hbr.alloc hbr.size (.cells #[.slice (some ⟨gz,0,none⟩) 32 32] 48)).grown hg2 (by simp;omega) (fun j hj=>(hown.lt j hj).1)
   rw [← Hsn.out] at hX
   have HX2:=Lib.hid hX
   have HO:=Lib.hid hown2
   clear hX hX0 hown2 hg2 hat2 hown hrows hrow Hne Hsn
   go_wp2_with fail
   exact HK.out _ _ _ _ _ _ _ _ _ _ _ _ _ _ _ _ _ _ _ ⟨by omega,HO.out,HX2.out,hbw2⟩ (by omega)
 ·have i1:¬ (kx:Int) < (W':Int):=by omega
  have Hin:=Lib.hid (show kx=W' by omega)
  clear HK
  go_wp2_with fail
  exact HX.out _ _ _ _ _ _ _ _ _ _ _ _ _ _ _ _ Hin.out
set_option maxRecDepth 100000 in
set_option maxHeartbeats 3200000 in
theorem wmE {W0 ws:World} {n0 l c l' c':Int} {D D' F' W' ρ b mb gn cn:Nat} {zs:List Int} {curn:Array Value} {KL:List (Nat × Obj)} {S:List (Option Addr × List UInt8)} {o:Obj} {Mp:Int→Option Value} {H:BH} {M:Bch}  {w:World} (u0 u1 u2 u3 u4 u5 u6 u7 u8 u9 u10 u11 u12 u13 u15 u16 u17 u18 u19 u20 u21 u22 u23 u24 u25 u26 u28 u29 u30 u31 u32 u33 u34 u35 u36 u37 u38 u39 u40 u41 u42 u43 u44 u45 u46 u47 u48 u49 u50 u51 u52 u53 u54 u55 u56 u57 u58 u59 u60 u61 u62 u63 u64 u65 u66 u67 u68 u69 u70 u71 u72 u73 u74 u75 u76 u77 u78 u79 u80 u81 u82 u83 u84 u85 u86 u87 u88 u89 u90 u91 u92 u93 u94 u95 u96 u97 u98 u99 u100 u101 u102 u103 u104 u105 u106 u107 u108 u109 u110 u111 u112 u113 u114 u115 u116 u117 u118 u119 u120 u121 u122 u123 u124 u125 u126 u127 u128 u129 u130 u131 u132 u133 u134 u135 u136 u137 u138 u139 u140 u141 u142 u143 u144 u145 u146 u147 u148 u149 u150 u151 u152 u153 u154 u155 u156 u157 u158 u159 u160 u161 u162 u163 u167 u168 u169 u170 u171 u172 u173 u174 u175 u176 u177 u178 u179 u180 u181 u182 u183 u184 u185 u186 u187 u188 u189 u190 u191 u192 u193 u194 u195 u196 u197 u198 u199 u200 u201 u202 u203 u204 u205 u206 u207 u208 u209 u210 u211 u212 u213 u214 u215 u216 u217 u218 u219 u220:Value) (Q:Exit→Act→World→Prop) (hg:gOk l (D:Int) c=true) (hM:(mb,o) ∈ KL) (hmap:∀ U:World,U.heap[mb]?=some o→∃ m,MapV U mb m Mp) (hF:WmF l D c (roW l (D:Int)) zs Mp S 16 0) (gr:Gr n0 l' c' (ρ:Int) D' F' W') (hN:(gn,Obj.cells curn 3 (0,0)) ∈ KL) (hcur:∀ k:Nat,k < W'→curn[k]?=some (.int .i64 (plN l' (D':Int) c' (ρ:Int) (k:Int)))) (hks:KS W0 ws b H M KL [] S) (hI:(0 ≤ W'∧w.ownsRow ws.heap.size 48 1 (.slice none 0 0) 0 []∧RowsX w w.heap.size (Value.ownBlock (.slice none 0 0)) [] (((plNums l' (D':Int) c' (ρ:Int)).take 0).map (upTo (gCap l (D:Int) c) (valOf l (D:Int) c (fun t=>datL zs t (roW l (D:Int))))))∧Below ws.heap.size ws w))
    (hX:∀ (v29 v30 v167 v168 v169 v170 v171 v172 v173 v174 v175 v176 v177 v178 v179 v180:Value) (kx:Nat) (dv:Value) (vs:List Value) (V:World),(kx ≤ W'∧V.ownsRow ws.heap.size 48 1 dv kx vs∧RowsX V V.heap.size (Value.ownBlock dv) vs (((plNums l' (D':Int) c' (ρ:Int)).take kx).map (upTo (gCap l (D:Int) c) (valOf l (D:Int) c (fun t=>datL zs t (roW l (D:Int))))))∧Below ws.heap.size ws V)→(kx=W')→Q (.exit 10) ⟨List.toArray (u0::u1::u2::u3::u4::u5::u6::u7::u8::u9::u10::u11::u12::u13::(.map (some mb))::u15::u16::u17::u18::u19::u20::u21::u22::u23::u24::u25::u26::dv::u28::v29::v30::u31::u32::u33::u34::u35::u36::u37::u38::u39::u40::u41::u42::u43::u44::u45::u46::u47::u48::u49::u50::u51::u52::u53::u54::u55::u56::u57::u58::u59::u60::u61::u62::u63::u64::u65::u66::u67::u68::u69::u70::u71::u72::u73::u74::u75::u76::u77::u78::u79::u80::u81::u82::u83::u84::u85::u86::u87::u88::u89::u90::u91::u92::u93::u94::u95::u96::u97::u98::u99::u100::u101::u102::u103::u104::u105::u106::u107::u108::u109::u110::u111::u112::u113::u114::u115::u116::u117::u118::u119::u120::u121::u122::u123::u124::u125::u126::u127::u128::u129::u130::u131::u132::u133::u134::u135::u136::u137::u138::u139::u140::u141::u142::u143::u144::u145::u146::u147::u148::u149::u150::u151::u152::u153::u154::u155::u156::u157::u158::u159::u160::u161::u162::u163::(.slice (some ⟨gn,0,none⟩) W' cn)::(.int .i64 (W':Int))::(.int .i64 ((kx:Nat):Int))::v167::v168::v169::v170::v171::v172::v173::v174::v175::v176::v177::v178::v179::v180::u181::u182::u183::u184::u185::u186::u187::u188::u189::u190::u191::u192::u193::u194::u195::u196::u197::u198::u199::u200::u201::u202::u203::u204::u205::u206::u207::u208::u209::u210::u211::u212::u213::u214::u215::u216::u217::u218::u219::u220::[]),[]⟩ V) :
    Code.wp Tryz.prog (.loop (sub [1,1,1,1,1,1,1,1,1,1,0,1,0,0,1,0,0,1,0,1,0,0] codeWM)) Q ⟨List.toArray (u0::u1::u2::u3::u4::u5::u6::u7::u8::u9::u10::u11::u12::u13::(.map (some mb))::u15::u16::u17::u18::u19::u20::u21::u22::u23::u24::u25::u26::(.slice none 0 0)::u28::u29::u30::u31::u32::u33::u34::u35::u36::u37::u38::u39::u40::u41::u42::u43::u44::u45::u46::u47::u48::u49::u50::u51::u52::u53::u54::u55::u56::u57::u58::u59::u60::u61::u62::u63::u64::u65::u66::u67::u68::u69::u70::u71::u72::u73::u74::u75::u76::u77::u78::u79::u80::u81::u82::u83::u84::u85::u86::u87::u88::u89::u90::u91::u92::u93::u94::u95::u96::u97::u98::u99::u100::u101::u102::u103::u104::u105::u106::u107::u108::u109::u110::u111::u112::u113::u114::u115::u116::u117::u118::u119::u120::u121::u122::u123::u124::u125::u126::u127::u128::u129::u130::u131::u132::u133::u134::u135::u136::u137::u138::u139::u140::u141::u142::u143::u144::u145::u146::u147::u148::u149::u150::u151::u152::u153::u154::u155::u156::u157::u158::u159::u160::u161::u162::u163::(.slice (some ⟨gn,0,none⟩) W' cn)::(.int .i64 (W':Int))::(.int .i64 ((0:Nat):Int))::u167::u168::u169::u170::u171::u172::u173::u174::u175::u176::u177::u178::u179::u180::u181::u182::u183::u184::u185::u186::u187::u188::u189::u190::u191::u192::u193::u194::u195::u196::u197::u198::u199::u200::u201::u202::u203::u204::u205::u206::u207::u208::u209::u210::u211::u212::u213::u214::u215::u216::u217::u218::u219::u220::[]),[]⟩ w:=by
 refine wp_loop_ghost (fun gk a V=>∀ C:Prop,(∀ (u29 u30 u167 u168 u169 u170 u171 u172 u173 u174 u175 u176 u177 u178 u179 u180:Value) (kx:Nat) (dv:Value) (vs:List Value),gk=W' - kx→(kx ≤ W'∧V.ownsRow ws.heap.size 48 1 dv kx vs∧RowsX V V.heap.size (Value.ownBlock dv) vs (((plNums l' (D':Int) c' (ρ:Int)).take kx).map (upTo (gCap l (D:Int) c) (valOf l (D:Int) c (fun t=>datL zs t (roW l (D:Int))))))∧Below ws.heap.size ws V)→a=⟨List.toArray (u0::u1::u2::u3::u4::u5::u6::u7::u8::u9::u10::u11::u12::u13::(.map (some mb))::u15::u16::u17::u18::u19::u20::u21::u22::u23::u24::u25::u26::dv::u28::u29::u30::u31::u32::u33::u34::u35::u36::u37::u38::u39::u40::u41::u42::u43::u44::u45::u46::u47::u48::u49::u50::u51::u52::u53::u54::u55::u56::u57::u58::u59::u60::u61::u62::u63::u64::u65::u66::u67::u68::u69::u70::u71::u72::u73::u74::u75::u76::u77::u78::u79::u80::u81::u82::u83::u84::u85::u86::u87::u88::u89::u90::u91::u92::u93::u94::u95::u96::u97::u98::u99::u100::u101::u102::u103::u104::u105::u106::u107::u108::u109::u110::u111::u112::u113::u114::u115::u116::u117::u118::u119::u120::u121::u122::u123::u124::u125::u126::u127::u128::u129::u130::u131::u132::u133::u134::u135::u136::u137::u138::u139::u140::u141::u142::u143::u144::u145::u146::u147::u148::u149::u150::u151::u152::u153::u154::u155::u156::u157::u158::u159::u160::u161::u162::u163::(.slice (some ⟨gn,0,none⟩) W' cn)::(.int .i64 (W':Int))::(.int .i64 ((kx:Nat):Int))::u167::u168::u169::u170::u171::u172::u173::u174::u175::u176::u177::u178::u179::u180::u181::u182::u183::u184::u185::u186::u187::u188::u189::u190::u191::u192::u193::u194::u195::u196::u197::u198::u199::u200::u201::u202::u203::u204::u205::u206::u207::u208::u209::u210::u211::u212::u213::u214::u215::u216::u217::u218::u219::u220::[]),[]⟩→C)→C) (W' - 0) ?_ ?_
 ·intro C hC
  exact hC _ _ _ _ _ _ _ _ _ _ _ _ _ _ _ _ (0) ((.slice none 0 0)) ([]) rfl hI rfl
 ·intro gk a V hI'
  refine hI' _ ?_
  intro u29 u30 u167 u168 u169 u170 u171 u172 u173 u174 u175 u176 u177 u178 u179 u180 kx dv vs hk hinv ha
  subst ha
  subst hk
  refine wmEb _ _ _ _ _ _ _ _ _ _ _ _ _ _ _ _ _ _ _ _ _ _ _ _ _ _ _ _ _ _ _ _ _ _ _ _ _ _ _ _ _ _ _ _ _ _ _ _ _ _ _ _ _ _ _ _ _ _ _ _ _ _ _ _ _ _ _ _ _ _ _ _ _ _ _ _ _ _ _ _ _ _ _ _ _ _ _ _ _ _ _ _ _ _ _ _ _ _ _ _ _ _ _ _ _ _ _ _ _ _ _ _ _ _ _ _ _ _ _ _ _ _ _ _ _ _ _ _ _ _ _ _ _ _ _ _ _ _ _ _ _ _ _ _ _ _ _ _ _ _ _ _ _ _ _ _ _ _ _ _ _ _ _ _ _ _ _ _ _ _ _ _ _ _ _ _ _ _ _ _ _ _ _ _ _ _ _ _ _ _ _ _ _ _ _ _ _ _ _ _ _ _ _ _ _ _ _ _ _ _ _ _ _ _ _ _ _ _ hg hM hmap hF gr hN hcur hks hinv (fun v29 v30 v167 v168 v169 v170 v171 v172 v173 v174 v175 v176 v177 v178 v179 v180 dv2 vs2 V2 h2 hm=>?_) (fun v29 v30 v167 v168 v169 v170 v171 v172 v173 v174 v175 v176 v177 v178 v179 v180 hx=>hX v29 v30 v167 v168 v169 v170 v171 v172 v173 v174 v175 v176 v177 v178 v179 v180 kx dv vs V hinv hx)
  refine ⟨_,hm,fun C hC=>?_⟩
  exact hC v29 v30 v167 v168 v169 v170 v171 v172 v173 v174 v175 v176 v177 v178 v179 v180 ((kx + 1)) (dv2) (vs2) rfl h2 rfl
set_option maxRecDepth 100000 in
set_option maxHeartbeats 3200000 in
theorem wmGb {W0:World} {g:Int} {D' ρ b gf:Nat} {full:List (List UInt8)} {KL:List (Nat × Obj)} {RL:List (Option Addr × List (List UInt8))} {S:List (Option Addr × List UInt8)} {H:BH} {M:Bch} {dx:Nat} {w:World} (u0 u1 u2 u3 u4 u5 u6 u7 u8 u9 u10 u12 u14 u15 u16 u17 u18 u19 u20 u21 u22 u23 u24 u25 u27 u28 u29 u30 u33 u34 u35 u36 u37 u38 u39 u40 u41 u42 u43 u44 u45 u46 u47 u48 u49 u50 u51 u52 u53 u54 u55 u56 u57 u58 u59 u60 u61 u62 u63 u64 u65 u66 u67 u68 u69 u70 u71 u72 u73 u74 u75 u76 u77 u78 u79 u80 u81 u82 u83 u84 u85 u86 u87 u88 u89 u90 u91 u92 u93 u94 u95 u96 u97 u98 u99 u100 u101 u102 u103 u104 u105 u106 u107 u108 u109 u110 u111 u112 u113 u114 u115 u116 u117 u118 u119 u120 u121 u122 u123 u124 u125 u126 u127 u128 u129 u130 u131 u132 u133 u134 u135 u136 u137 u138 u139 u140 u141 u142 u143 u144 u145 u146 u147 u148 u149 u150 u151 u152 u153 u154 u155 u156 u157 u158 u159 u160 u161 u162 u163 u164 u165 u166 u167 u168 u169 u170 u171 u172 u173 u174 u175 u176 u177 u178 u179 u180 u181 u182 u183 u184 u185 u186 u187 u188 u191 u192 u193 u194 u195 u196 u197 u198 u199 u200 u201 u202 u203 u204 u205 u206 u207 u208 u209 u210 u211 u212 u213 u214 u215 u216 u217 u218 u219 u220:Value) (K:Act→World→Prop) (Q0:Exit→Act→World→Prop) (hfl:full.length=D') (hD:D' ≤ 8) (hρ:ρ < 16) (h32:∀ i,i < D'→(full.getD i []).length=32) (hR:(some ⟨gf,0,none⟩,full) ∈ RL) (hT:∀ i:Nat,i < D'→(i:Int) ≠ g→M.readE (i:Int) ((36 + ρ:Nat):Int)=0∧M.read (i:Int) ((36 + ρ:Nat):Int)=full.getD i []) (hI:(dx ≤ D'∧KS W0 w b H M KL RL S))
    (hK:∀ (v8 v33 v34 v35 v191 v192 v193 v194 v195 v196 v197 v198 v199 v200 v201 v202 v203 v204 v205 v206 v207 v208 v209 v210 v211 v212 v213 v214 v215 v216 v217 v218 v219:Value)  (V:World),((dx + 1) ≤ D'∧KS W0 V b H M KL RL S)→D' - (dx + 1) < D' - dx→K ⟨List.toArray (u0::u1::u2::u3::u4::u5::u6::u7::v8::u9::u10::(.pointer (some ⟨b,0,none⟩))::u12::(.int .i64 g)::u14::u15::u16::u17::u18::u19::u20::u21::u22::u23::u24::u25::(.int .i64 (ρ:Int))::u27::u28::u29::u30::(.slice (some ⟨gf,0,none⟩) D' D')::(.bool true)::v33::v34::v35::u36::u37::u38::u39::u40::u41::u42::u43::u44::u45::u46::u47::u48::u49::u50::u51::u52::u53::u54::u55::u56::u57::u58::u59::u60::u61::u62::u63::u64::u65::u66::u67::u68::u69::u70::u71::u72::u73::u74::u75::u76::u77::u78::u79::u80::u81::u82::u83::u84::u85::u86::u87::u88::u89::u90::u91::u92::u93::u94::u95::u96::u97::u98::u99::u100::u101::u102::u103::u104::u105::u106::u107::u108::u109::u110::u111::u112::u113::u114::u115::u116::u117::u118::u119::u120::u121::u122::u123::u124::u125::u126::u127::u128::u129::u130::u131::u132::u133::u134::u135::u136::u137::u138::u139::u140::u141::u142::u143::u144::u145::u146::u147::u148::u149::u150::u151::u152::u153::u154::u155::u156::u157::u158::u159::u160::u161::u162::u163::u164::u165::u166::u167::u168::u169::u170::u171::u172::u173::u174::u175::u176::u177::u178::u179::u180::u181::u182::u183::u184::u185::u186::u187::u188::(.int .i64 (D':Int))::(.int .i64 (((dx + 1):Nat):Int))::v191::v192::v193::v194::v195::v196::v197::v198::v199::v200::v201::v202::v203::v204::v205::v206::v207::v208::v209::v210::v211::v212::v213::v214::v215::v216::v217::v218::v219::u220::[]),[]⟩ V)
    (hX:∀ (v8 v33 v34 v35 v191 v192 v193 v194 v195 v196 v197 v198 v199 v200 v201 v202 v203 v204 v205 v206 v207 v208 v209 v210 v211 v212 v213 v214 v215 v216 v217 v218 v219:Value),(dx=D')→Q0 (.exit 12) ⟨List.toArray (u0::u1::u2::u3::u4::u5::u6::u7::v8::u9::u10::(.pointer (some ⟨b,0,none⟩))::u12::(.int .i64 g)::u14::u15::u16::u17::u18::u19::u20::u21::u22::u23::u24::u25::(.int .i64 (ρ:Int))::u27::u28::u29::u30::(.slice (some ⟨gf,0,none⟩) D' D')::(.bool true)::v33::v34::v35::u36::u37::u38::u39::u40::u41::u42::u43::u44::u45::u46::u47::u48::u49::u50::u51::u52::u53::u54::u55::u56::u57::u58::u59::u60::u61::u62::u63::u64::u65::u66::u67::u68::u69::u70::u71::u72::u73::u74::u75::u76::u77::u78::u79::u80::u81::u82::u83::u84::u85::u86::u87::u88::u89::u90::u91::u92::u93::u94::u95::u96::u97::u98::u99::u100::u101::u102::u103::u104::u105::u106::u107::u108::u109::u110::u111::u112::u113::u114::u115::u116::u117::u118::u119::u120::u121::u122::u123::u124::u125::u126::u127::u128::u129::u130::u131::u132::u133::u134::u135::u136::u137::u138::u139::u140::u141::u142::u143::u144::u145::u146::u147::u148::u149::u150::u151::u152::u153::u154::u155::u156::u157::u158::u159::u160::u161::u162::u163::u164::u165::u166::u167::u168::u169::u170::u171::u172::u173::u174::u175::u176::u177::u178::u179::u180::u181::u182::u183::u184::u185::u186::u187::u188::(.int .i64 (D':Int))::(.int .i64 ((dx:Nat):Int))::v191::v192::v193::v194::v195::v196::v197::v198::v199::v200::v201::v202::v203::v204::v205::v206::v207::v208::v209::v210::v211::v212::v213::v214::v215::v216::v217::v218::v219::u220::[]),[]⟩ w) :
    Code.wp Tryz.prog (sub [1,1,1,1,1,1,1,1,1,1,0,1,0,0,1,0,0,1,1,1,1,0,0] codeWM) (Exit.then K Q0) ⟨List.toArray (u0::u1::u2::u3::u4::u5::u6::u7::u8::u9::u10::(.pointer (some ⟨b,0,none⟩))::u12::(.int .i64 g)::u14::u15::u16::u17::u18::u19::u20::u21::u22::u23::u24::u25::(.int .i64 (ρ:Int))::u27::u28::u29::u30::(.slice (some ⟨gf,0,none⟩) D' D')::(.bool true)::u33::u34::u35::u36::u37::u38::u39::u40::u41::u42::u43::u44::u45::u46::u47::u48::u49::u50::u51::u52::u53::u54::u55::u56::u57::u58::u59::u60::u61::u62::u63::u64::u65::u66::u67::u68::u69::u70::u71::u72::u73::u74::u75::u76::u77::u78::u79::u80::u81::u82::u83::u84::u85::u86::u87::u88::u89::u90::u91::u92::u93::u94::u95::u96::u97::u98::u99::u100::u101::u102::u103::u104::u105::u106::u107::u108::u109::u110::u111::u112::u113::u114::u115::u116::u117::u118::u119::u120::u121::u122::u123::u124::u125::u126::u127::u128::u129::u130::u131::u132::u133::u134::u135::u136::u137::u138::u139::u140::u141::u142::u143::u144::u145::u146::u147::u148::u149::u150::u151::u152::u153::u154::u155::u156::u157::u158::u159::u160::u161::u162::u163::u164::u165::u166::u167::u168::u169::u170::u171::u172::u173::u174::u175::u176::u177::u178::u179::u180::u181::u182::u183::u184::u185::u186::u187::u188::(.int .i64 (D':Int))::(.int .i64 ((dx:Nat):Int))::u191::u192::u193::u194::u195::u196::u197::u198::u199::u200::u201::u202::u203::u204::u205::u206::u207::u208::u209::u210::u211::u212::u213::u214::u215::u216::u217::u218::u219::u220::[]),[]⟩ w:=by
 have HK:=Lib.hid hK
 have HX:=Lib.hid hX
 clear hK hX
 conv=>arg 2;whnf
 obtain ⟨hdD,hk⟩:=hI
 by_cases hlt:dx < D'
 ·have i0:(0:Int) ≤ (dx:Int):=by omega
  have i1:(dx:Int) < (D':Int):=by omega
  have HKS:=Lib.hid hk
  by_cases hg:(dx:Int)=g
  ·have hgb:((dx:Int) == g)=true:=by rw [hg];exact beq_self_eq_true g
   clear HX hk hT hR h32 hg
   go_wp2_with fail
   exact HK.out _ _ _ _ _ _ _ _ _ _ _ _ _ _ _ _ _ _ _ _ _ _ _ _ _ _ _ _ _ _ _ _ _ _ ⟨by omega,HKS.out⟩ (by omega)
  ·have hgb:((dx:Int) == g)=false:=by rw [beq_eq_false_iff_ne];exact hg
   obtain ⟨t0,t1⟩:=hT dx hlt hg
   rw [show ((36 + ρ:Nat):Int)=36 + (ρ:Int) by omega] at t0 t1
   have CR:=bp_read _ _ _ _ _ hk.bp (dx:Int) (36 + (ρ:Int)) ⟨by omega,by omega⟩ ⟨by omega,by omega⟩
   rw [t0,t1] at CR
   have hl32:=h32 dx hlt
   have Hat:=Lib.hid (fun V (h:KS W0 V b H M KL RL S)=>(h.rx _ hR).cellAt (k:=dx) (by show dx < full.length;omega))
   generalize full.getD dx []=xx at CR hl32 Hat
   have CR:=Lib.hid CR
   have hwr:IntKind.i64.wrap (36 + (ρ:Int))=36 + (ρ:Int):=IntWalk.i64_in _ (by omega)
   clear HX hk hT hR h32 t0 t1 hg
   go_wp2_with fail
   (with_reducible refine CR.out.mono ?_);rintro e v1 ⟨v,rfl,hr,hb1⟩
   have KB:=Lib.hid (HKS.out.below hb1)
   obtain ⟨Ar,cr,rfl,_,hrd⟩:=hr.rd
   obtain ⟨A2,c2,z2,r2⟩:=Hat.out _ KB.out
   rw [Nat.zero_add] at z2
   have CS:=sameT_any (c:=cr) (c':=c2) hl32.symm hl32.symm hrd r2.rdb
   rw [hl32] at z2 ⊢
   have CS:=Lib.hid CS
   clear hr hrd hb1 r2 Hat CR HKS
   go_wp2_with fail
   (with_reducible refine CS.out.mono ?_);rintro e v2 ⟨rfl,m2,rfl⟩
   have KC:=Lib.hid (KB.out.below (belowN _ _ m2))
   clear CS KB
   go_wp2_with fail
   exact HK.out _ _ _ _ _ _ _ _ _ _ _ _ _ _ _ _ _ _ _ _ _ _ _ _ _ _ _ _ _ _ _ _ _ _ ⟨by omega,KC.out⟩ (by omega)
 ·have i1:¬ (dx:Int) < (D':Int):=by omega
  have Hin:=Lib.hid (show dx=D' by omega)
  clear HK hk
  go_wp2_with fail
  exact HX.out _ _ _ _ _ _ _ _ _ _ _ _ _ _ _ _ _ _ _ _ _ _ _ _ _ _ _ _ _ _ _ _ _ Hin.out
set_option maxRecDepth 100000 in
set_option maxHeartbeats 3200000 in
theorem wmG {W0:World} {g:Int} {D' ρ b gf:Nat} {full:List (List UInt8)} {KL:List (Nat × Obj)} {RL:List (Option Addr × List (List UInt8))} {S:List (Option Addr × List UInt8)} {H:BH} {M:Bch}  {w:World} (u0 u1 u2 u3 u4 u5 u6 u7 u8 u9 u10 u12 u14 u15 u16 u17 u18 u19 u20 u21 u22 u23 u24 u25 u27 u28 u29 u30 u33 u34 u35 u36 u37 u38 u39 u40 u41 u42 u43 u44 u45 u46 u47 u48 u49 u50 u51 u52 u53 u54 u55 u56 u57 u58 u59 u60 u61 u62 u63 u64 u65 u66 u67 u68 u69 u70 u71 u72 u73 u74 u75 u76 u77 u78 u79 u80 u81 u82 u83 u84 u85 u86 u87 u88 u89 u90 u91 u92 u93 u94 u95 u96 u97 u98 u99 u100 u101 u102 u103 u104 u105 u106 u107 u108 u109 u110 u111 u112 u113 u114 u115 u116 u117 u118 u119 u120 u121 u122 u123 u124 u125 u126 u127 u128 u129 u130 u131 u132 u133 u134 u135 u136 u137 u138 u139 u140 u141 u142 u143 u144 u145 u146 u147 u148 u149 u150 u151 u152 u153 u154 u155 u156 u157 u158 u159 u160 u161 u162 u163 u164 u165 u166 u167 u168 u169 u170 u171 u172 u173 u174 u175 u176 u177 u178 u179 u180 u181 u182 u183 u184 u185 u186 u187 u188 u191 u192 u193 u194 u195 u196 u197 u198 u199 u200 u201 u202 u203 u204 u205 u206 u207 u208 u209 u210 u211 u212 u213 u214 u215 u216 u217 u218 u219 u220:Value) (Q:Exit→Act→World→Prop) (hfl:full.length=D') (hD:D' ≤ 8) (hρ:ρ < 16) (h32:∀ i,i < D'→(full.getD i []).length=32) (hR:(some ⟨gf,0,none⟩,full) ∈ RL) (hT:∀ i:Nat,i < D'→(i:Int) ≠ g→M.readE (i:Int) ((36 + ρ:Nat):Int)=0∧M.read (i:Int) ((36 + ρ:Nat):Int)=full.getD i []) (hI:(0 ≤ D'∧KS W0 w b H M KL RL S))
    (hX:∀ (v8 v33 v34 v35 v191 v192 v193 v194 v195 v196 v197 v198 v199 v200 v201 v202 v203 v204 v205 v206 v207 v208 v209 v210 v211 v212 v213 v214 v215 v216 v217 v218 v219:Value) (dx:Nat) (V:World),(dx ≤ D'∧KS W0 V b H M KL RL S)→(dx=D')→Q (.exit 12) ⟨List.toArray (u0::u1::u2::u3::u4::u5::u6::u7::v8::u9::u10::(.pointer (some ⟨b,0,none⟩))::u12::(.int .i64 g)::u14::u15::u16::u17::u18::u19::u20::u21::u22::u23::u24::u25::(.int .i64 (ρ:Int))::u27::u28::u29::u30::(.slice (some ⟨gf,0,none⟩) D' D')::(.bool true)::v33::v34::v35::u36::u37::u38::u39::u40::u41::u42::u43::u44::u45::u46::u47::u48::u49::u50::u51::u52::u53::u54::u55::u56::u57::u58::u59::u60::u61::u62::u63::u64::u65::u66::u67::u68::u69::u70::u71::u72::u73::u74::u75::u76::u77::u78::u79::u80::u81::u82::u83::u84::u85::u86::u87::u88::u89::u90::u91::u92::u93::u94::u95::u96::u97::u98::u99::u100::u101::u102::u103::u104::u105::u106::u107::u108::u109::u110::u111::u112::u113::u114::u115::u116::u117::u118::u119::u120::u121::u122::u123::u124::u125::u126::u127::u128::u129::u130::u131::u132::u133::u134::u135::u136::u137::u138::u139::u140::u141::u142::u143::u144::u145::u146::u147::u148::u149::u150::u151::u152::u153::u154::u155::u156::u157::u158::u159::u160::u161::u162::u163::u164::u165::u166::u167::u168::u169::u170::u171::u172::u173::u174::u175::u176::u177::u178::u179::u180::u181::u182::u183::u184::u185::u186::u187::u188::(.int .i64 (D':Int))::(.int .i64 ((dx:Nat):Int))::v191::v192::v193::v194::v195::v196::v197::v198::v199::v200::v201::v202::v203::v204::v205::v206::v207::v208::v209::v210::v211::v212::v213::v214::v215::v216::v217::v218::v219::u220::[]),[]⟩ V) :
    Code.wp Tryz.prog (.loop (sub [1,1,1,1,1,1,1,1,1,1,0,1,0,0,1,0,0,1,1,1,1,0,0] codeWM)) Q ⟨List.toArray (u0::u1::u2::u3::u4::u5::u6::u7::u8::u9::u10::(.pointer (some ⟨b,0,none⟩))::u12::(.int .i64 g)::u14::u15::u16::u17::u18::u19::u20::u21::u22::u23::u24::u25::(.int .i64 (ρ:Int))::u27::u28::u29::u30::(.slice (some ⟨gf,0,none⟩) D' D')::(.bool true)::u33::u34::u35::u36::u37::u38::u39::u40::u41::u42::u43::u44::u45::u46::u47::u48::u49::u50::u51::u52::u53::u54::u55::u56::u57::u58::u59::u60::u61::u62::u63::u64::u65::u66::u67::u68::u69::u70::u71::u72::u73::u74::u75::u76::u77::u78::u79::u80::u81::u82::u83::u84::u85::u86::u87::u88::u89::u90::u91::u92::u93::u94::u95::u96::u97::u98::u99::u100::u101::u102::u103::u104::u105::u106::u107::u108::u109::u110::u111::u112::u113::u114::u115::u116::u117::u118::u119::u120::u121::u122::u123::u124::u125::u126::u127::u128::u129::u130::u131::u132::u133::u134::u135::u136::u137::u138::u139::u140::u141::u142::u143::u144::u145::u146::u147::u148::u149::u150::u151::u152::u153::u154::u155::u156::u157::u158::u159::u160::u161::u162::u163::u164::u165::u166::u167::u168::u169::u170::u171::u172::u173::u174::u175::u176::u177::u178::u179::u180::u181::u182::u183::u184::u185::u186::u187::u188::(.int .i64 (D':Int))::(.int .i64 ((0:Nat):Int))::u191::u192::u193::u194::u195::u196::u197::u198::u199::u200::u201::u202::u203::u204::u205::u206::u207::u208::u209::u210::u211::u212::u213::u214::u215::u216::u217::u218::u219::u220::[]),[]⟩ w:=by
 refine wp_loop_ghost (fun gk a V=>∀ C:Prop,(∀ (u8 u33 u34 u35 u191 u192 u193 u194 u195 u196 u197 u198 u199 u200 u201 u202 u203 u204 u205 u206 u207 u208 u209 u210 u211 u212 u213 u214 u215 u216 u217 u218 u219:Value) (dx:Nat),gk=D' - dx→(dx ≤ D'∧KS W0 V b H M KL RL S)→a=⟨List.toArray (u0::u1::u2::u3::u4::u5::u6::u7::u8::u9::u10::(.pointer (some ⟨b,0,none⟩))::u12::(.int .i64 g)::u14::u15::u16::u17::u18::u19::u20::u21::u22::u23::u24::u25::(.int .i64 (ρ:Int))::u27::u28::u29::u30::(.slice (some ⟨gf,0,none⟩) D' D')::(.bool true)::u33::u34::u35::u36::u37::u38::u39::u40::u41::u42::u43::u44::u45::u46::u47::u48::u49::u50::u51::u52::u53::u54::u55::u56::u57::u58::u59::u60::u61::u62::u63::u64::u65::u66::u67::u68::u69::u70::u71::u72::u73::u74::u75::u76::u77::u78::u79::u80::u81::u82::u83::u84::u85::u86::u87::u88::u89::u90::u91::u92::u93::u94::u95::u96::u97::u98::u99::u100::u101::u102::u103::u104::u105::u106::u107::u108::u109::u110::u111::u112::u113::u114::u115::u116::u117::u118::u119::u120::u121::u122::u123::u124::u125::u126::u127::u128::u129::u130::u131::u132::u133::u134::u135::u136::u137::u138::u139::u140::u141::u142::u143::u144::u145::u146::u147::u148::u149::u150::u151::u152::u153::u154::u155::u156::u157::u158::u159::u160::u161::u162::u163::u164::u165::u166::u167::u168::u169::u170::u171::u172::u173::u174::u175::u176::u177::u178::u179::u180::u181::u182::u183::u184::u185::u186::u187::u188::(.int .i64 (D':Int))::(.int .i64 ((dx:Nat):Int))::u191::u192::u193::u194::u195::u196::u197::u198::u199::u200::u201::u202::u203::u204::u205::u206::u207::u208::u209::u210::u211::u212::u213::u214::u215::u216::u217::u218::u219::u220::[]),[]⟩→C)→C) (D' - 0) ?_ ?_
 ·intro C hC
  exact hC _ _ _ _ _ _ _ _ _ _ _ _ _ _ _ _ _ _ _ _ _ _ _ _ _ _ _ _ _ _ _ _ _ (0) rfl hI rfl
 ·intro gk a V hI'
  refine hI' _ ?_
  intro u8 u33 u34 u35 u191 u192 u193 u194 u195 u196 u197 u198 u199 u200 u201 u202 u203 u204 u205 u206 u207 u208 u209 u210 u211 u212 u213 u214 u215 u216 u217 u218 u219 dx hk hinv ha
  subst ha
  subst hk
  refine wmGb _ _ _ _ _ _ _ _ _ _ _ _ _ _ _ _ _ _ _ _ _ _ _ _ _ _ _ _ _ _ _ _ _ _ _ _ _ _ _ _ _ _ _ _ _ _ _ _ _ _ _ _ _ _ _ _ _ _ _ _ _ _ _ _ _ _ _ _ _ _ _ _ _ _ _ _ _ _ _ _ _ _ _ _ _ _ _ _ _ _ _ _ _ _ _ _ _ _ _ _ _ _ _ _ _ _ _ _ _ _ _ _ _ _ _ _ _ _ _ _ _ _ _ _ _ _ _ _ _ _ _ _ _ _ _ _ _ _ _ _ _ _ _ _ _ _ _ _ _ _ _ _ _ _ _ _ _ _ _ _ _ _ _ _ _ _ _ _ _ _ _ _ _ _ _ _ _ _ _ _ _ _ _ _ _ _ _ _ _ _ _ _ _ _ _ _ _ _ _ _ _ _ _ _ _ _ _ _ _ _ _ _ _ _ _ _ hfl hD hρ h32 hR hT hinv (fun v8 v33 v34 v35 v191 v192 v193 v194 v195 v196 v197 v198 v199 v200 v201 v202 v203 v204 v205 v206 v207 v208 v209 v210 v211 v212 v213 v214 v215 v216 v217 v218 v219  V2 h2 hm=>?_) (fun v8 v33 v34 v35 v191 v192 v193 v194 v195 v196 v197 v198 v199 v200 v201 v202 v203 v204 v205 v206 v207 v208 v209 v210 v211 v212 v213 v214 v215 v216 v217 v218 v219 hx=>hX v8 v33 v34 v35 v191 v192 v193 v194 v195 v196 v197 v198 v199 v200 v201 v202 v203 v204 v205 v206 v207 v208 v209 v210 v211 v212 v213 v214 v215 v216 v217 v218 v219 dx V hinv hx)
  refine ⟨_,hm,fun C hC=>?_⟩
  exact hC v8 v33 v34 v35 v191 v192 v193 v194 v195 v196 v197 v198 v199 v200 v201 v202 v203 v204 v205 v206 v207 v208 v209 v210 v211 v212 v213 v214 v215 v216 v217 v218 v219 ((dx + 1)) rfl h2 rfl
end Go.Proofs.YtldfoadildaljaaGreat
end
section
set_option maxRecDepth 20000
set_option linter.unusedVariables false
set_option linter.unusedSimpArgs false
namespace Go.Proofs.YtldfoadildaljaaGreat
open Go.RowKit
theorem row_up {l c l' c':Int} {D D' ρ:Nat} {zs:List Int} (hg:gOk l (D:Int) c=true) (hok:plOk l' (D':Int) c' (ρ:Int)=true):∀ x ∈ (plNums l' (D':Int) c' (ρ:Int)).map (upTo (gCap l (D:Int) c) (valOf l (D:Int) c (fun t=>datL zs t (roW l (D:Int))))),x.length=32:=fun x hx=>by
 obtain ⟨z,hz,rfl⟩:=List.mem_map.1 hx
 unfold plNums at hz
 rw [if_pos hok] at hz
 obtain ⟨q,hq,rfl⟩:=List.mem_map.1 hz
 have h0:=(num_row (plDok_mk (k:=(q:Int)) hok (by omega) (by have:=List.mem_range.1 hq;omega))).1
 unfold upTo
 split
 ·next hc =>
  obtain ⟨ρ',q',h1,h2,_,_,_,h4⟩:=num_at hg h0 hc
  rw [h4];exact dat32 h2
 ·rfl
theorem tdiv3_b {z:Int} (h:-9223372036854775808 ≤ z∧z ≤ 9223372036854775807):-9223372036854775808 ≤ z.tdiv 3∧z.tdiv 3 ≤ 9223372036854775807:=by
 rcases Int.le_total 0 z with h0 | h0
 ·rw [Int.tdiv_eq_ediv_of_nonneg h0];omega
 ·have e:z.tdiv 3=-((-z) / 3):=by
    rw [← Int.tdiv_eq_ediv_of_nonneg (by omega),Int.neg_tdiv,Int.neg_neg]
  rw [e];omega
set_option maxRecDepth 100000 in
set_option maxHeartbeats 8000000 in
theorem windowmoves (P:WinP) (m n:Int) (A:Option Addr) (zs:List Int) (cl:Nat) (lz:Int) (w:World) (hm:(-9223372036854775808 ≤ m∧m ≤ 9223372036854775807)) (hn:(-9223372036854775808 ≤ n∧n ≤ 9223372036854775807)) (hcl:zs.length ≤ cl) (hz:RdZ w w.heap.size A zs) (hlz:(-9223372036854775808 ≤ lz∧lz ≤ 9223372036854775807)) :
    Calls Tryz.prog 4 #[.int .i64 m,.int .i64 n,.slice A zs.length cl,.int .i64 lz] w fun e w'=>e=.returned (.bool true)∧Below w.heap.size w w':=by
 have HZ:=Lib.hid hz
 have hpn:=ptr_eq
 have CP:=Lib.hid (fun V=>playPair_can m n V hm hn)
 have HP:=Lib.hid P
 go_enter Tryz.func4,Tryz.ntmps4
 go_wp2_with fail
 (with_reducible refine (CP.out _).mono ?_);rintro e w1 ⟨l,dd,c,l',d',c',rfl,hc,hb⟩
 obtain ⟨hg1,hg2,_,hdd,hll,_⟩:=gCan_parts hc
 have hb1:=gOk_bd hg1
 have hb2:=gOk_bd hg2
 obtain ⟨D,rfl⟩:=Int.eq_ofNat_of_zero_le (show 0 ≤ dd by omega)
 obtain ⟨D',rfl⟩:=Int.eq_ofNat_of_zero_le (show 0 ≤ d' by omega)
 have hDD:D ≤ D':=by omega
 obtain ⟨R,Wn,wa,wb,Pq⟩:=pn_of hc
 have HQ:=Lib.hid Pq
 have hrw:=Pq.rows
 have hnb:=Pq.n_bd
 have B2:=below2 w1 (.cells #[.int .i64 l,.int .i64 (D:Int),.int .i64 c] 25) (.cells #[.int .i64 l',.int .i64 (D':Int),.int .i64 c'] 25)
 have hbb:=hb.trans (B2.mono hb.size)
 have gr0:=gr_mk (l:=l) (c:=c) (r:=(0:Int)) (D:=D) hg1 (by omega) (by omega)
 have CF:=Lib.hid (stpFilled_any gr0 D' hDD (by omega) A zs zs.length cl ((w1.alloc (.cells #[.int .i64 l,.int .i64 (D:Int),.int .i64 c] 25)).alloc (.cells #[.int .i64 l',.int .i64 (D':Int),.int .i64 c'] 25)) rfl hcl ((hz.below hbb (Nat.le_refl _)).keep hbb.size fun _ _=>rfl))
 have HB:=Lib.hid hbb
 have O1:=Lib.hid (show ((w1.alloc (.cells #[.int .i64 l,.int .i64 (D:Int),.int .i64 c] 25)).alloc (.cells #[.int .i64 l',.int .i64 (D':Int),.int .i64 c'] 25)).heap[w1.heap.size]?=some (Obj.cells #[.int .i64 l,.int .i64 (D:Int),.int .i64 c] 25 (0,0)) from (hp_old _ _ _ (by simp)).trans (hp_new _ _ _ rfl))
 have O2:=Lib.hid (show ((w1.alloc (.cells #[.int .i64 l,.int .i64 (D:Int),.int .i64 c] 25)).alloc (.cells #[.int .i64 l',.int .i64 (D':Int),.int .i64 c'] 25)).heap[w1.heap.size + 1]?=some (Obj.cells #[.int .i64 l',.int .i64 (D':Int),.int .i64 c'] 25 (0,0)) from hp_new _ _ _ (by simp))
 have hw1:=hb.size
 clear CP hc B2 hb hbb Pq P gr0
 go_wp2_with fail
 refine CF.out.mono ?_
 rintro e w2 ⟨b,H,N,rfl,k2,f2⟩
 have k0:=k2.open2 HB.out O1.out O2.out hw1 (by omega)
 have Hf:=Lib.hid f2
 obtain ⟨g1,g2,g3⟩:=k0.gat (g:=w1.heap.size) (l:=l) (d:=(D:Int)) (c:=c) (t:=25) (f:=(0,0)) (by simp)
 obtain ⟨g4,g5,g6⟩:=k0.gat (g:=w1.heap.size + 1) (l:=l') (d:=(D':Int)) (c:=c') (t:=25) (f:=(0,0)) (by simp)
 have CL:=Lib.hid (ks_live k0 0 D' (by omega) (by omega))
 clear k2 f2 k0 O1 O2 CF HB
 go_wp2_with fail
 (with_reducible refine CL.out.mono ?_);rintro e w3 ⟨gl,rfl,k1⟩
 have K1:=Lib.hid k1
 clear g1 g2 g3 g4 g5 g6
 clear CL k1
 have hl0:(liveL 0 D').length=D':=liveL_len _ _
 have HI0:=Lib.hid (show WmI N D' (liveL 0 D') l D c l' c' (fun t=>datL zs t (roW l (D:Int))) (-1) 0∧N.done=0 from Hf.out.wm)
 have bq:=withinI_bd lz 3 (by omega)
 have CQ:=Lib.hid (fun V=>within_any lz 3 V hlz (by omega))
 generalize withinI lz 3=q3 at bq CQ
 have hl3:=tdiv3_b hlz
 have bd1:=withinI_bd (lz.tdiv 3) (D':Int) (by omega)
 have CD:=Lib.hid (fun V=>within_any (lz.tdiv 3) (D':Int) V hl3 (by omega))
 obtain ⟨d1,hd1⟩:=Int.eq_ofNat_of_zero_le bd1.1
 rw [hd1] at CD bd1
 have hwt:IntKind.i64.wrap (lz.tdiv 3)=lz.tdiv 3:=IntWalk.i64_in _ hl3
 have HNE:=Lib.hid (show ∀ r ∈ [(w1.heap.size,Obj.cells #[.int .i64 l,.int .i64 (D:Int),.int .i64 c] 25 (0,0)),(w1.heap.size + 1,Obj.cells #[.int .i64 l',.int .i64 (D':Int),.int .i64 c'] 25 (0,0))],r.1 ≠ gl from fun r hr e=>by
  have hblk:=(K1.out.kx.kp (gl,Obj.cells ((liveL 0 D').map Value.bool).toArray 4 (0,0)) (by simp)).1
  have hr2:=(K1.out.kx.kp r (List.mem_cons_of_mem _ hr)).1
  dsimp only at hblk
  rw [e,hblk] at hr2
  simp only [List.mem_cons,List.not_mem_nil,or_false] at hr
  injection hr2 with hr2
  rcases hr with rfl | rfl <;> (injection hr2 with _ h2 _;exact absurd h2 (by decide)))
 clear Hf hz hd1
 go_wp2_with fail
 (with_reducible refine (CQ.out _).mono ?_);rintro e w4 ⟨rfl,h4⟩
 obtain rfl:w3=w4:=h4.symm
 have K1x:=K1
 clear K1
 have K1:=Lib.hid K1x.out
 clear h4 CQ K1x
 go_upto_if 54 with fail
 go_cut [13,55,56,57,58,59,60,61,62,63,64,65] (fun s13 _ _ _ _ _ _ _ _ _ _ _ V=>∃ (g:Int) (N':Bch) (H':BH) (lv:List Bool),s13=.int .i64 g∧(-1 ≤ g∧g ≤ 8)∧lv.length=D'∧KS w V b H' N' [(gl,Obj.cells (lv.map Value.bool).toArray 4 (0,0)),(w1.heap.size,Obj.cells #[.int .i64 l,.int .i64 (D:Int),.int .i64 c] 25 (0,0)),(w1.heap.size + 1,Obj.cells #[.int .i64 l',.int .i64 (D':Int),.int .i64 c'] 25 (0,0))] [] []∧WmI N' D' lv l D c l' c' (fun t=>datL zs t (roW l (D:Int))) g 0∧N'.done=0)
 case first =>
  by_cases hq:q3=0
  ·subst hq
   have i0:(0:Int) ≤ (d1:Int):=by omega
   have i1:(d1:Int) < (D':Int):=by omega
   have CFl:=Lib.hid (ks_fail K1.out (d1:Int) ⟨by omega,by omega⟩)
   have HL:=Lib.hid (HI0.out.1.lose (k:=d1) (by omega))
   have hdn2:(N.fail (d1:Int)).done=0:=by
    rw [← HI0.out.2];unfold Bch.fail;split <;> rfl
   obtain ⟨g1,g2,g3⟩:=K1.out.gat (g:=w1.heap.size) (l:=l) (d:=(D:Int)) (c:=c) (t:=25) (f:=(0,0)) (by simp)
   obtain ⟨g4,g5,g6⟩:=K1.out.gat (g:=w1.heap.size + 1) (l:=l') (d:=(D':Int)) (c:=c') (t:=25) (f:=(0,0)) (by simp)
   go_wp2_with fail
   (with_reducible refine (CD.out _).mono ?_);rintro e w4 ⟨rfl,h4⟩
   obtain rfl:w3=w4:=h4.symm
   clear h4 CD
   go_wp2_with fail
   (with_reducible refine CFl.out.mono ?_);rintro e w5 ⟨rfl,H5,k5⟩
   have hblk:=(k5.kx.kp (gl,Obj.cells ((liveL 0 D').map Value.bool).toArray 4 (0,0)) (by simp)).1
   dsimp only at hblk
   obtain ⟨hc0,hf0,hb0,gg0⟩:=lv_setCell hblk (d:=d1) (by rw [hl0];omega) false
   have K6:=Lib.hid (k5.putB gg0 hb0 HNE.out)
   clear g1 g2 g3 g4 g5 g6
   clear k5 CFl K1 hb0 gg0 hblk
   go_wp2_with fail
   go_meet
   exact ⟨(d1:Int),_,H5,_,rfl,⟨by omega,by omega⟩,by rw [List.length_set];exact hl0,K6.out,HL.out,hdn2⟩
  ·have hqb:(q3 == 0)=false:=by rw [beq_eq_false_iff_ne];exact hq
   go_wp2_with fail
   go_meet
   exact ⟨-1,N,H,liveL 0 D',rfl,⟨by omega,by omega⟩,hl0,K1.out,HI0.out.1,HI0.out.2⟩
 case rest =>
  obtain ⟨g,N',H',lv,rfl,hgb,hlv,k2,hI2,hdn2⟩:=hcut
  clear K1 HI0 CD HNE hwt hl3 bd1 bq
  have K2:=Lib.hid k2
  have HI2:=Lib.hid (show WmI N' D' lv l D c l' c' (fun t=>datL zs t (roW l (D:Int))) g (((0:Nat):Int) * R)∧N'.done ≤ 32 * 0 from ⟨by rw [show ((0:Nat):Int) * R=0 from Int.zero_mul R];exact hI2,by rw [hdn2];exact Nat.le_refl _⟩)
  have hmm:=@run_makeMap Tryz.prog
  obtain ⟨nb,hnbq⟩:∃ nb:Nat,R * wb=(nb:Int):=⟨(R * wb).toNat,by omega⟩
  have HNb:=Lib.hid hnbq
  have CWn:=Lib.hid (fun V=>refWindows_any l (D:Int) c l' (D':Int) c' V (by omega) (by omega) (by omega) (by omega) (by omega) (by omega))
  rw [HQ.out.eK] at CWn
  have hrk:=HQ.out.rk
  have HRd:=Lib.hid (wdat_rows l (D:Int) zs)
  rw [hnbq] at hnb
  clear k2 hI2 hdn2 hnbq
  rename World=>wc
  have k3:=K2.out.add (.map #[] 0)
  obtain ⟨mb,hmb⟩:∃ mb,wc.heap.size=mb:=⟨_,rfl⟩
  rw [hmb] at k3
  have K3:=Lib.hid k3
  have HMne:=Lib.hid (show ∀ q ∈ [(gl,Obj.cells (lv.map Value.bool).toArray 4 (0,0)),(w1.heap.size,Obj.cells #[.int .i64 l,.int .i64 (D:Int),.int .i64 c] 25 (0,0)),(w1.heap.size + 1,Obj.cells #[.int .i64 l',.int .i64 (D':Int),.int .i64 c'] 25 (0,0))],q.1 ≠ mb from fun q hq e=>by
   have:=(Array.getElem?_eq_some_iff.1 (K2.out.kx.kp q hq).1).1
   omega)
  clear k3 K2
  go_upto_block 0 with fail
  try rw [hmb]
  refine wp_block ?_
  have gr0:=gr_mk (l:=l) (c:=c) (r:=(0:Int)) (D:=D) hg1 (by omega) (by omega)
  refine wmB _ _ _ _ _ _ _ _ _ _ _ _ _ _ _ _ _ _ _ _ _ _ _ _ _ _ _ _ _ _ _ _ _ _ _ _ _ _ _ _ _ _ _ _ _ _ _ _ _ _ _ _ _ _ _ _ _ _ _ _ _ _ _ _ _ _ _ _ _ _ _ _ _ _ _ _ _ _ _ _ _ _ _ _ _ _ _ _ _ _ _ _ _ _ _ _ _ _ _ _ _ _ _ _ _ _ _ _ _ _ _ _ _ _ _ _ _ _ _ _ _ _ _ _ _ _ _ _ _ _ _ _ _ _ _ _ _ _ _ _ _ _ _ _ _ _ _ _ _ _ _ _ _ _ _ _ _ _ _ _ _ _ _ _ _ _ _ _ _ _ _ _ _ _ _ _ _ _ _ _ _ _ _ _ _ _ _ _ _ _ _ _ _ _ _ _ _ _ _ _ _ _ _ _ _ _ _ _ _ _ _ _ _ _ _ _ _ _ gr0 hcl HZ.out (by simp) HMne.out (Mp0:=fun _=>none) (m0:=0) (S0:=[]) (o0:=.map #[] 0) ⟨Nat.zero_le _,by omega,K3.out,fun U hU=>mapV_zero hU,WmF.nil,Frm.nil _⟩ (fun v16 v17 v18 v67 v68 v69 v70 v71 v72 v73 v74 v75 v76 v77 v78 v79 v80 v81 v82 v83 v84 v85 v86 v87 v88 v89 v90 ρ o Mp m4 S V4 hI4 hx4=>?_)
  obtain ⟨_,_,k4,hmap,hwf,_⟩:=hI4
  rw [hx4] at hwf
  clear hx4
  have K4:=Lib.hid k4
  have HMap:=Lib.hid (show ∀ U:World,U.heap[mb]?=some o→∃ m,MapV U mb m Mp from fun U hU=>⟨m4,hmap U hU⟩)
  have HWf:=Lib.hid hwf
  clear k4 hmap hwf K3 HMne gr0 hmb
  go_wp2_with fail
  go_loopw [19] (fun i V=>∃ (j:Nat) (N:Bch) (H:BH),(j:Int) ≤ Wn∧i=.int .i64 j∧KS w V b H N ((mb,o)::[(gl,Obj.cells (lv.map Value.bool).toArray 4 (0,0)),(w1.heap.size,Obj.cells #[.int .i64 l,.int .i64 (D:Int),.int .i64 c] 25 (0,0)),(w1.heap.size + 1,Obj.cells #[.int .i64 l',.int .i64 (D':Int),.int .i64 c'] 25 (0,0))]) [] S∧WmI N D' lv l D c l' c' (fun t=>datL zs t (roW l (D:Int))) g ((j:Int) * R)∧N.done ≤ 32 * j) (fun i _=>(Wn - intOf i).toNat)
  case atStart=>exact ⟨0,N',H',by omega,rfl,K4.out,HI2.out⟩
  case round =>
   obtain ⟨j,N,H,hj,rfl,hk,hI,hdn⟩:=hrel
   have HK:=Lib.hid hk
   clear hk K4 HI2
   obtain ⟨g1,g2,g3⟩:=HK.out.gat (g:=w1.heap.size) (l:=l) (d:=(D:Int)) (c:=c) (t:=25) (f:=(0,0)) (by simp)
   obtain ⟨g4,g5,g6⟩:=HK.out.gat (g:=w1.heap.size + 1) (l:=l') (d:=(D':Int)) (c:=c') (t:=25) (f:=(0,0)) (by simp)
   go_wp2_with fail
   (with_reducible refine (CWn.out _).mono ?_);rintro e w4 ⟨rfl,hb4⟩
   have K5:=Lib.hid (HK.out.below hb4)
   clear g1 g2 g3 g4 g5 g6
   clear hb4 HK
   by_cases hlt:(j:Int) < Wn
   ·have i0:(0:Int) ≤ (j:Int):=by omega
    have CSp:=Lib.hid (fun V=>refSpan_any l (D:Int) c l' (D':Int) c' (j:Int) V (by omega) (by omega) (by omega) (by omega) (by omega) (by omega) (by omega))
    have hT0:pnT l (D:Int) c l' (D':Int) c' (j:Int)=(j:Int) * (R * wb) + R * wb:=by unfold pnT;rw [if_pos (HQ.out.sok (by omega) (by omega)),HQ.out.n,Int.add_mul,Int.one_mul]
    rw [HQ.out.frm (by omega) (by omega),hT0,HNb.out] at CSp
    clear hT0
    have hrd:=hI.read HQ.out hDD (by omega) (by omega) HRd.out
    obtain ⟨N2,hst,hI2,hd2⟩:=hI.step HQ.out (by omega) (by omega) HRd.out
    rw [HNb.out,show ((nb:Nat):Int).toNat=nb from Int.toNat_natCast _] at hrd hst
    obtain ⟨fr,hfr⟩:∃ fr:Nat,(j:Int) * (nb:Int)=(fr:Int):=⟨j * nb,by rw [Int.natCast_mul]⟩
    have hfb:fr ≤ 16 * 28:=by
     have h1:j * nb ≤ 16 * 28:=Nat.mul_le_mul (by omega) (by omega)
     have h2:((j * nb:Nat):Int)=(fr:Int):=by rw [Int.natCast_mul];exact hfr
     omega
    rw [hfr] at hrd hst CSp
    obtain ⟨en,hen⟩:∃ en:Int,(fr:Int) + (nb:Int)=en:=⟨_,rfl⟩
    rw [hen] at CSp
    have hwn:IntKind.i64.wrap (en - (fr:Int))=(nb:Int):=by rw [show en - (fr:Int)=(nb:Int) by omega];exact IntWalk.i64_in _ (by omega)
    have henb:en - (fr:Int)=(nb:Int):=by omega
    have hwl:=wlist_len (gCap l (D:Int) c) (valOf l (D:Int) c (fun t=>datL zs t (roW l (D:Int)))) (fr:Int) nb
    have CR:=fun (V:World) (H:BH) (h:KS w V b H N ((mb,o)::[(gl,Obj.cells (lv.map Value.bool).toArray 4 (0,0)),(w1.heap.size,Obj.cells #[.int .i64 l,.int .i64 (D:Int),.int .i64 c] 25 (0,0)),(w1.heap.size + 1,Obj.cells #[.int .i64 l',.int .i64 (D':Int),.int .i64 c'] 25 (0,0))]) [] S)=>HP.out.rd w V b H N _ _ _ h lv (some ⟨gl,0,none⟩) D' D' hlv.symm (h.lv (g:=gl) (lv:=lv) (t:=4) (f:=(0,0)) (by simp) rfl (by omega)) l (D:Int) c l' (D':Int) c' (j:Int) (by omega) (by omega) (by omega) (by omega) (by omega) (by omega) (by omega)
    rw [hrd] at CR
    have CW:=fun (V:World) (A2:Option Addr) (c2:Nat) (H:BH) (h:KS w V b H N ((mb,o)::[(gl,Obj.cells (lv.map Value.bool).toArray 4 (0,0)),(w1.heap.size,Obj.cells #[.int .i64 l,.int .i64 (D:Int),.int .i64 c] 25 (0,0)),(w1.heap.size + 1,Obj.cells #[.int .i64 l',.int .i64 (D':Int),.int .i64 c'] 25 (0,0))]) [(A2,(wlist (gCap l (D:Int) c) (valOf l (D:Int) c (fun t=>datL zs t (roW l (D:Int)))) (fr:Int) nb))] S)=>HP.out.wr w V b H N _ _ _ h lv (some ⟨gl,0,none⟩) D' D' hlv.symm (h.lv (g:=gl) (lv:=lv) (t:=4) (f:=(0,0)) (by simp) rfl (by omega)) l (D:Int) c l' (D':Int) c' (j:Int) (by omega) (by omega) (by omega) (by omega) (by omega) (by omega) (by omega) A2 (wlist (gCap l (D:Int) c) (valOf l (D:Int) c (fun t=>datL zs t (roW l (D:Int)))) (fr:Int) nb) nb c2 hwl (by omega) (h.rx _ (List.mem_cons_self ..)) hI.ps (by omega)
    simp only [hst] at CW
    have CR:=Lib.hid CR
    have CW:=Lib.hid CW
    have HI2:=Lib.hid hI2
    have HD2:=Lib.hid (show N2.done ≤ N.done + 32 from hd2)
    obtain ⟨g1,g2,g3⟩:=K5.out.gat (g:=w1.heap.size) (l:=l) (d:=(D:Int)) (c:=c) (t:=25) (f:=(0,0)) (by simp)
    obtain ⟨g4,g5,g6⟩:=K5.out.gat (g:=w1.heap.size + 1) (l:=l') (d:=(D':Int)) (c:=c') (t:=25) (f:=(0,0)) (by simp)
    clear hI2 hd2 hrd hst hI hfr hen
    go_wp2_with fail
    (with_reducible refine (CR.out _ _ K5.out).mono ?_);rintro e w5 ⟨A5,c5,rfl,k6⟩
    dsimp only at k6 ⊢
    rw [hwl]
    have K6:=Lib.hid k6
    clear g1 g2 g3 g4 g5 g6
    clear k6 K5 CR
    obtain ⟨g1,g2,g3⟩:=K6.out.gat (g:=w1.heap.size) (l:=l) (d:=(D:Int)) (c:=c) (t:=25) (f:=(0,0)) (by simp)
    obtain ⟨g4,g5,g6⟩:=K6.out.gat (g:=w1.heap.size + 1) (l:=l') (d:=(D':Int)) (c:=c') (t:=25) (f:=(0,0)) (by simp)
    go_wp2_with fail
    (with_reducible refine (CSp.out _).mono ?_);rintro e w6 ⟨rfl,hb6⟩
    have K7:=Lib.hid (K6.out.below hb6)
    clear g1 g2 g3 g4 g5 g6
    clear hb6 K6 CSp
    obtain ⟨g1,g2,g3⟩:=K7.out.gat (g:=w1.heap.size) (l:=l) (d:=(D:Int)) (c:=c) (t:=25) (f:=(0,0)) (by simp)
    obtain ⟨g4,g5,g6⟩:=K7.out.gat (g:=w1.heap.size + 1) (l:=l') (d:=(D':Int)) (c:=c') (t:=25) (f:=(0,0)) (by simp)
    go_upto_block 6 with fail
    refine wp_block ?_
    refine wmC _ _ _ _ _ _ _ _ _ _ _ _ _ _ _ _ _ _ _ _ _ _ _ _ _ _ _ _ _ _ _ _ _ _ _ _ _ _ _ _ _ _ _ _ _ _ _ _ _ _ _ _ _ _ _ _ _ _ _ _ _ _ _ _ _ _ _ _ _ _ _ _ _ _ _ _ _ _ _ _ _ _ _ _ _ _ _ _ _ _ _ _ _ _ _ _ _ _ _ _ _ _ _ _ _ _ _ _ _ _ _ _ _ _ _ _ _ _ _ _ _ _ _ _ _ _ _ _ _ _ _ _ _ _ _ _ _ _ _ _ _ _ _ _ _ _ _ _ _ _ _ _ _ _ _ _ _ _ _ _ _ _ _ _ _ _ _ _ _ _ _ _ _ _ _ _ _ _ _ _ _ _ _ _ _ _ _ _ _ _ _ _ _ _ _ _ _ _ _ _ _ _ _ _ _ _ _ _ _ _ _ _ _ _ _ _ _ hg1 (by simp) HMap.out HWf.out (by omega) (by omega) (List.mem_cons_self ..) ⟨Nat.zero_le _,K7.out⟩ (fun v8 v24 v25 v127 v128 v129 v130 v131 v132 v133 v134 v135 v136 v137 v138 v139 v140 v141 v142 v143 v144 ix V8 hI8 hx8=>?_)
    have CW8:=Lib.hid (CW.out _ _ c5 _ hI8.2)
    have K8:=Lib.hid hI8.2
    clear g1 g2 g3 g4 g5 g6
    clear hI8 hx8 K7 CW hwl
    obtain ⟨g1,g2,g3⟩:=K8.out.gat (g:=w1.heap.size) (l:=l) (d:=(D:Int)) (c:=c) (t:=25) (f:=(0,0)) (by simp)
    obtain ⟨g4,g5,g6⟩:=K8.out.gat (g:=w1.heap.size + 1) (l:=l') (d:=(D':Int)) (c:=c') (t:=25) (f:=(0,0)) (by simp)
    go_wp2_with fail
    (with_reducible refine CW8.out.mono ?_);rintro e w9 ⟨rfl,H9,k9⟩
    dsimp only at k9 ⊢
    have K9:=Lib.hid (k9.less (K':=((mb,o)::[(gl,Obj.cells (lv.map Value.bool).toArray 4 (0,0)),(w1.heap.size,Obj.cells #[.int .i64 l,.int .i64 (D:Int),.int .i64 c] 25 (0,0)),(w1.heap.size + 1,Obj.cells #[.int .i64 l',.int .i64 (D':Int),.int .i64 c'] 25 (0,0))])) (R':=[]) (S':=S) (fun p hp=>hp) (fun p hp=>by cases hp) (fun p hp=>hp))
    have CP2:=Lib.hid (bp_pending_eq _ _ _ _ _ K9.out.bp (fun i hi=>Nat.le_trans (HI2.out.ps i hi) (by omega)))
    rw [pend_zero (fun i hi=>HI2.out.mv.wg.ps i (by rw [← HI2.out.mv.wg.n];exact hi))] at CP2
    clear g1 g2 g3 g4 g5 g6
    clear k9 CW8 K8
    go_wp2_with fail
    (with_reducible refine CP2.out.mono ?_);rintro e w10 ⟨rfl,h10⟩
    obtain rfl:w9=w10:=h10.symm
    clear h10 CP2
    go_wp2_with fail
    go_roundw
    case rel=>exact ⟨j + 1,N2,H9,by omega,by go_num,K9.out,by rw [Int.natCast_add];exact HI2.out,by have:=HD2.out;omega⟩
    case measure=>simp [intOf];omega
   ·have hWR:Wn * R=16:=by rw [Int.mul_comm];omega
    have HI:=Lib.hid (show WmI N D' lv l D c l' c' (fun t=>datL zs t (roW l (D:Int))) g 16 by rw [← hWR,show Wn=(j:Int) by omega];exact hI)
    clear hI hdn hWR
    go_wp2_with fail
    go_loopw [26] (fun i V=>∃ ρ:Nat,ρ ≤ 16∧i=.int .i64 ρ∧KS w V b H N ((mb,o)::[(gl,Obj.cells (lv.map Value.bool).toArray 4 (0,0)),(w1.heap.size,Obj.cells #[.int .i64 l,.int .i64 (D:Int),.int .i64 c] 25 (0,0)),(w1.heap.size + 1,Obj.cells #[.int .i64 l',.int .i64 (D':Int),.int .i64 c'] 25 (0,0))]) [] S) (fun i _=>(16 - intOf i).toNat)
    case atStart=>exact ⟨0,by omega,rfl,K5.out⟩
    case round =>
     obtain ⟨ρ,hρ,rfl,hk⟩:=hrel
     have HK:=Lib.hid hk
     clear hk K5
     by_cases hl2:ρ < 16
     ·have i0:(0:Int) ≤ (ρ:Int):=by omega
      have i1:(ρ:Int) < 16:=by omega
      have gr:=gr_mk (l:=l') (c:=c') (r:=(ρ:Int)) (D:=D') hg2 (by omega) (by omega)
      have Grs:=Lib.hid gr
      have CN:=Lib.hid (ks_numsG HK.out gr)
      have hup:=row_up (zs:=zs) hg1 gr.ok
      have hul:((plNums l' (D':Int) c' (ρ:Int)).map (upTo (gCap l (D:Int) c) (valOf l (D:Int) c (fun t=>datL zs t (roW l (D:Int)))))).length=roW l' (D':Int):=by rw [List.length_map,plNums_len gr.ok,gr.wd,Int.toNat_natCast]
      have hfok:=gr.fok hul hup
      have CF:=Lib.hid (fun (A2:Option Addr) (c2:Nat) V (hrd:RdR V V.heap.size A2 ((plNums l' (D':Int) c' (ρ:Int)).map (upTo (gCap l (D:Int) c) (valOf l (D:Int) c (fun t=>datL zs t (roW l (D:Int)))))))=>refFill_good (cp:=c2) hrd hul hfok gr.eD rfl gr.l64 gr.d64 gr.c64 gr.r64)
      have HT:=Lib.hid (fun (i:Nat) (hi:i < D') (hne:(i:Int) ≠ g)=>HI.out.told hg2 hl2 hi hne)
      have H32:=Lib.hid (fun (i:Nat) (hi:i < D')=>gr.fills hul hup hi)
      have hAll:(plNums l' (D':Int) c' (ρ:Int)).length=roW l' (D':Int):=by rw [List.length_map] at hul;exact hul
      have HUl:=Lib.hid hul
      have HAll:=Lib.hid hAll
      have hw7:=gr.w7
      obtain ⟨g1,g2,g3⟩:=HK.out.gat (g:=w1.heap.size) (l:=l) (d:=(D:Int)) (c:=c) (t:=25) (f:=(0,0)) (by simp)
      obtain ⟨g4,g5,g6⟩:=HK.out.gat (g:=w1.heap.size + 1) (l:=l') (d:=(D':Int)) (c:=c') (t:=25) (f:=(0,0)) (by simp)
      clear gr hup hul hfok hAll
      go_wp2_with fail
      (with_reducible refine CN.out.mono ?_);rintro e w6 ⟨gn,cn,curn,rfl,k6,hcur,_⟩
      have K6:=Lib.hid k6
      have Hcur:=Lib.hid hcur
      clear g1 g2 g3 g4 g5 g6
      clear k6 hcur CN HK
      go_upto_block 10 with fail
      refine wp_block ?_
      refine wmE _ _ _ _ _ _ _ _ _ _ _ _ _ _ _ _ _ _ _ _ _ _ _ _ _ _ _ _ _ _ _ _ _ _ _ _ _ _ _ _ _ _ _ _ _ _ _ _ _ _ _ _ _ _ _ _ _ _ _ _ _ _ _ _ _ _ _ _ _ _ _ _ _ _ _ _ _ _ _ _ _ _ _ _ _ _ _ _ _ _ _ _ _ _ _ _ _ _ _ _ _ _ _ _ _ _ _ _ _ _ _ _ _ _ _ _ _ _ _ _ _ _ _ _ _ _ _ _ _ _ _ _ _ _ _ _ _ _ _ _ _ _ _ _ _ _ _ _ _ _ _ _ _ _ _ _ _ _ _ _ _ _ _ _ _ _ _ _ _ _ _ _ _ _ _ _ _ _ _ _ _ _ _ _ _ _ _ _ _ _ _ _ _ _ _ _ _ _ _ _ _ _ _ _ _ _ _ _ _ _ _ _ _ _ _ _ _ hg1 (List.mem_cons_of_mem _ (List.mem_cons_self ..)) HMap.out HWf.out Grs.out (List.mem_cons_self ..) Hcur.out K6.out ⟨Nat.zero_le _,World.ownsRow_nil _ _ _ _,RowsX.nil _ _ _,Below.refl _ _⟩ (fun v29 v30 v167 v168 v169 v170 v171 v172 v173 v174 v175 v176 v177 v178 v179 v180 kx dv vs V7 hI7 hx7=>?_)
      obtain ⟨_,hown,hrows,hb7⟩:=hI7
      have K7:=Lib.hid ((K6.out.below hb7).less (K':=((mb,o)::[(gl,Obj.cells (lv.map Value.bool).toArray 4 (0,0)),(w1.heap.size,Obj.cells #[.int .i64 l,.int .i64 (D:Int),.int .i64 c] 25 (0,0)),(w1.heap.size + 1,Obj.cells #[.int .i64 l',.int .i64 (D':Int),.int .i64 c'] 25 (0,0))])) (R':=[]) (S':=S) (fun p hp=>List.mem_cons_of_mem _ hp) (fun p hp=>hp) (fun p hp=>hp))
      rw [show (plNums l' (D':Int) c' (ρ:Int)).take kx=plNums l' (D':Int) c' (ρ:Int) from List.take_of_length_le (by rw [HAll.out];omega)] at hrows
      obtain ⟨Ao,co,hdv,hor⟩:=rdr_own hown (Nat.le_refl _) (by rw [HUl.out];omega) hrows.rowsV
      rw [HUl.out] at hdv
      subst hdv
      have CF7:=Lib.hid (CF.out Ao co _ hor)
      clear hown hrows hb7 hx7 hor K6 Hcur CF
      obtain ⟨g1,g2,g3⟩:=K7.out.gat (g:=w1.heap.size) (l:=l) (d:=(D:Int)) (c:=c) (t:=25) (f:=(0,0)) (by simp)
      obtain ⟨g4,g5,g6⟩:=K7.out.gat (g:=w1.heap.size + 1) (l:=l') (d:=(D':Int)) (c:=c') (t:=25) (f:=(0,0)) (by simp)
      go_wp2_with fail
      (with_reducible refine CF7.out.mono ?_);rintro e w8 ⟨gf,xs,rfl,hq8,hb8⟩
      have K8:=Lib.hid (K7.out.rows hb8 (hq8.rdf (by omega)))
      clear g1 g2 g3 g4 g5 g6
      clear hq8 hb8 K7 CF7
      go_upto_block 12 with fail
      refine wp_block ?_
      refine wmG _ _ _ _ _ _ _ _ _ _ _ _ _ _ _ _ _ _ _ _ _ _ _ _ _ _ _ _ _ _ _ _ _ _ _ _ _ _ _ _ _ _ _ _ _ _ _ _ _ _ _ _ _ _ _ _ _ _ _ _ _ _ _ _ _ _ _ _ _ _ _ _ _ _ _ _ _ _ _ _ _ _ _ _ _ _ _ _ _ _ _ _ _ _ _ _ _ _ _ _ _ _ _ _ _ _ _ _ _ _ _ _ _ _ _ _ _ _ _ _ _ _ _ _ _ _ _ _ _ _ _ _ _ _ _ _ _ _ _ _ _ _ _ _ _ _ _ _ _ _ _ _ _ _ _ _ _ _ _ _ _ _ _ _ _ _ _ _ _ _ _ _ _ _ _ _ _ _ _ _ _ _ _ _ _ _ _ _ _ _ _ _ _ _ _ _ _ _ _ _ _ _ _ _ _ _ _ _ _ _ _ _ _ _ _ (fillL_len _ _ _) (by omega) hl2 H32.out (List.mem_cons_self ..) HT.out ⟨Nat.zero_le _,K8.out⟩ (fun v8 v33 v34 v35 v191 v192 v193 v194 v195 v196 v197 v198 v199 v200 v201 v202 v203 v204 v205 v206 v207 v208 v209 v210 v211 v212 v213 v214 v215 v216 v217 v218 v219 dx V9 hI9 hx9=>?_)
      have K9:=Lib.hid (hI9.2.less (K':=((mb,o)::[(gl,Obj.cells (lv.map Value.bool).toArray 4 (0,0)),(w1.heap.size,Obj.cells #[.int .i64 l,.int .i64 (D:Int),.int .i64 c] 25 (0,0)),(w1.heap.size + 1,Obj.cells #[.int .i64 l',.int .i64 (D':Int),.int .i64 c'] 25 (0,0))])) (R':=[]) (S':=S) (fun p hp=>hp) (fun p hp=>by cases hp) (fun p hp=>hp))
      clear hI9 hx9 K8 HT H32 HUl HAll
      go_wp2_with fail
      go_roundw
      case rel=>exact ⟨ρ + 1,by omega,by go_num,K9.out⟩
      case measure=>simp [intOf];omega
     ·have i1:¬ (ρ:Int) < 16:=by omega
      go_wp2_with fail
      (with_reducible refine (winWakes_any HP.out _).mono ?_);rintro e w10 ⟨rfl,h10⟩
      have K10:=HK.out.below h10
      go_wp2_with fail
      go_ret
      exact ⟨rfl,K10.bp.bel⟩
end Go.Proofs.YtldfoadildaljaaGreat
end
