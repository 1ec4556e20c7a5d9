/- Texts put together: StpKeep, StpFilledLoops. -/
import Derived.Test.YtldfoadildaljaaGreatWmbe
import Derived.Test.YtldfoadildaljaaGreatWmat
import Derived.Test.YtldfoadildaljaaGreatWmbd
import Derived.Test.YtldfoadildaljaaGreatWmaz
import Derived.Test.YtldfoadildaljaaGreatWmbb
import Derived.Test.YtldfoadildaljaaGreatWmaq
import Derived.Test.YtldfoadildaljaaGreatWmag
import Derived.Test.YtldfoadildaljaaGreatWmaa
section
set_option maxRecDepth 20000
set_option linter.unusedVariables false
set_option linter.unusedSimpArgs false
namespace Go.Proofs.YtldfoadildaljaaGreat
open Go.RowKit
section
variable {W w w':World} {b:Nat} {H:BH} {N:Bch} {K:List (Nat × Obj)} {R:List (Option Addr × List (List UInt8))} {S:List (Option Addr × List UInt8)}
theorem KS.gat (h:KS W w b H N K R S) {g:Nat} {l d c:Int} {t:TypeId} {f:Nat × Nat} (hm:(g,Obj.cells #[.int .i64 l,.int .i64 d,.int .i64 c] t f) ∈ K):GAt w g l d c:=by
 have h1:=(h.kx.kp _ hm).1
 exact ⟨cell_of_row w g 0 _ t f h1,cell_of_row w g 1 _ t f h1,cell_of_row w g 2 _ t f h1⟩
theorem sflS_n (N:Bch) (lv:List Bool):(sflS N lv).2.n=N.n:=flushed_n _
end
section
variable {W w:World} {b:Nat} {H:BH} {N:Bch} {K:List (Nat × Obj)} {R:List (Option Addr × List (List UInt8))} {S:List (Option Addr × List UInt8)} (h:KS W w b H N K R S)
include h
theorem ks_flush (lv:List Bool) (A:Option Addr) (m cp:Nat) (hm:m=lv.length) (hv:RdOX (BF b H N.n) w A lv) :
    Calls Tryz.prog 38 #[.pointer (some ⟨b,0,none⟩),.slice A m cp] w fun e w'=>e=.returned (.int .i64 (sflS N lv).1)∧∃ H',KS W w' b H' (sflS N lv).2 K R S:=by
 refine (stpFlush_any W w b H N h.bp lv A m cp hm hv).mono ?_
 rintro e w' ⟨rfl,ht⟩
 obtain ⟨H',k'⟩:=h.bc ht (sflS_n _ _)
 exact ⟨rfl,H',k'⟩
end
end Go.Proofs.YtldfoadildaljaaGreat
end
section
set_option linter.unusedVariables false
set_option linter.unusedSimpArgs false
namespace Go.Proofs.YtldfoadildaljaaGreat
open Go.RowKit
noncomputable def codeFld:Code:=Tryz.f6.body.getD .skip
theorem Gr.at {n l c r:Int} {D F W:Nat} (h:Gr n l c r D F W) {s:Nat} (hs:s < 16):Gr n l c (s:Int) D (roF l (D:Int) c (s:Int)) W:=by
 have hok:=plOk_mk (plOk_yes h.ok).1 (show (0:Int) ≤ (s:Int) by omega) (show (s:Int) < 16 by omega)
 have R:=ro_of hok
 have hF:=R.hF
 rw [h.eD] at hF
 exact ⟨hok,R,h.eD,rfl,h.eW,hF,h.hW,h.w1,h.w7,h.d8,h.d3,h.lv,h.wd,h.l64,h.d64,h.c64,by omega,⟨by omega,by omega⟩⟩
def rowL (l c:Int) (D W:Nat) (zs:List Int) (s:Nat):List (List UInt8):=fillL D (roF l (D:Int) c (s:Int)) (datL zs s W)
theorem rowL_32 {n l c r:Int} {D F W:Nat} (h:Gr n l c r D F W) {zs:List Int} {s i:Nat} (hs:s < 16) (hi:i < D):((rowL l c D W zs s).getD i []).length=32:=(h.at hs).fills (datL_len _ _ _) datL_mem hi
theorem rowL_len (l c:Int) (D W:Nat) (zs:List Int) (s:Nat):(rowL l c D W zs s).length=D:=fillL_len _ _ _
theorem refFill_good {A:Option Addr} {rs:List (List UInt8)} {n cp D F:Nat} {l d c r:Int} {w:World} (hrd:RdR w w.heap.size A rs) (hn:rs.length=n) (hT:fillOk l d c r rs=true) (hD:roD d=D) (hF:roF l d c r=F)
    (hl:-9223372036854775808 ≤ l∧l ≤ 9223372036854775807) (hd:-9223372036854775808 ≤ d∧d ≤ 9223372036854775807) (hc:-9223372036854775808 ≤ c∧c ≤ 9223372036854775807) (hr:-9223372036854775808 ≤ r∧r ≤ 9223372036854775807) :
    Calls Tryz.prog 23 #[.agg #[.int .i64 l,.int .i64 d,.int .i64 c],.int .i64 r,.slice A n cp] w fun e w'=>∃ g xs,e=.returned (.tuple #[.slice (some ⟨g,0,none⟩) D D,.bool true])∧Rq w.heap.size w' g D D xs (fillL D F rs)∧Below w.heap.size w w':=by
 subst hD hF
 refine (refFill_yes A rs n cp l d c r w hn hrd hT hl hd hc hr).mono ?_
 rintro e w' ⟨g,xs,he,hq,hb⟩
 rw [fillL_len] at he hq
 exact ⟨g,xs,he,hq,hb⟩
set_option maxRecDepth 100000 in
set_option maxHeartbeats 3200000 in
theorem flIb {W0:World} {m D b g s:Nat} {KK:List (Nat × Obj)} {fl:Nat→List (List UInt8)} {j:Nat} {H:BH} {N:Bch} {w:World} (u0 u2 u3 u4 u5 u6 u8 u13 u14 u15 u16 u17 u18 u19 u20 u21 u22 u23 u24 u25 u26 u27 u28 u29 u30 u31 u32 u33 u34 u35 u36 u37 u38 u39 u40 u41 u42 u43 u44 u45 u46 u47 u48 u49 u50 u51 u52 u53 u54 u55 u56 u57 u58 u59 u60 u61 u62 u63 u64 u65 u66:Value) (K:Act→World→Prop) (Q0:Exit→Act→World→Prop) (hs:s < 16) (hD:D ≤ m) (hm:m ≤ 8) (hln:(fl s).length=D) (h32:∀ i,i < D→((fl s).getD i []).length=32) (hI:(j ≤ D∧KS W0 w b H N KK [(some ⟨g,0,none⟩,fl s)] []∧Fld N m D fl s j))
    (hK:∀ (v43 v44 v45 v46 v47 v48 v49 v50 v51 v52 v53 v54 v55 v56 v57 v58 v59 v60 v61 v62 v63 v64 v65:Value) (H2:BH) (N2:Bch) (V:World),((j + 1) ≤ D∧KS W0 V b H2 N2 KK [(some ⟨g,0,none⟩,fl s)] []∧Fld N2 m D fl s (j + 1))→D - (j + 1) < D - j→K ⟨List.toArray (u0::(.int .i64 (m:Int))::u2::u3::u4::u5::u6::(.pointer (some ⟨b,0,none⟩))::u8::(.int .i64 (s:Int))::(.slice (some ⟨g,0,none⟩) D D)::(.bool true)::(.int .i64 (((j + 1):Nat):Int))::u13::u14::u15::u16::u17::u18::u19::u20::u21::u22::u23::u24::u25::u26::u27::u28::u29::u30::u31::u32::u33::u34::u35::u36::u37::u38::u39::u40::u41::u42::v43::v44::v45::v46::v47::v48::v49::v50::v51::v52::v53::v54::v55::v56::v57::v58::v59::v60::v61::v62::v63::v64::v65::u66::[]),[]⟩ V)
    (hX:∀ (v43 v44 v45 v46 v47 v48 v49 v50 v51 v52 v53 v54 v55 v56 v57 v58 v59 v60 v61 v62 v63 v64 v65:Value),(j=D)→Q0 (.exit 2) ⟨List.toArray (u0::(.int .i64 (m:Int))::u2::u3::u4::u5::u6::(.pointer (some ⟨b,0,none⟩))::u8::(.int .i64 (s:Int))::(.slice (some ⟨g,0,none⟩) D D)::(.bool true)::(.int .i64 ((j:Nat):Int))::u13::u14::u15::u16::u17::u18::u19::u20::u21::u22::u23::u24::u25::u26::u27::u28::u29::u30::u31::u32::u33::u34::u35::u36::u37::u38::u39::u40::u41::u42::v43::v44::v45::v46::v47::v48::v49::v50::v51::v52::v53::v54::v55::v56::v57::v58::v59::v60::v61::v62::v63::v64::v65::u66::[]),[]⟩ w) :
    Code.wp Tryz.prog (sub [1,1,1,0,1,0,0,1,0,0,1,1,0,0] codeFld) (Exit.then K Q0) ⟨List.toArray (u0::(.int .i64 (m:Int))::u2::u3::u4::u5::u6::(.pointer (some ⟨b,0,none⟩))::u8::(.int .i64 (s:Int))::(.slice (some ⟨g,0,none⟩) D D)::(.bool true)::(.int .i64 ((j:Nat):Int))::u13::u14::u15::u16::u17::u18::u19::u20::u21::u22::u23::u24::u25::u26::u27::u28::u29::u30::u31::u32::u33::u34::u35::u36::u37::u38::u39::u40::u41::u42::u43::u44::u45::u46::u47::u48::u49::u50::u51::u52::u53::u54::u55::u56::u57::u58::u59::u60::u61::u62::u63::u64::u65::u66::[]),[]⟩ w:=by
 have HK:=Lib.hid hK
 have HX:=Lib.hid hX
 clear hK hX
 conv=>arg 2;whnf
 obtain ⟨hj,hk,hf⟩:=hI
 have Hk:=Lib.hid hk
 have Hf:=Lib.hid hf
 by_cases hlt:j < D
 ·have i0:(0:Int) ≤ (j:Int):=by omega
  have i1:(j:Int) < (D:Int):=by omega
  have i2:(j:Int) < (m:Int):=by omega
  have h32j:=h32 j hlt
  obtain ⟨b',off,A',c',e,h1,h2⟩:=(hk.rx _ (List.mem_cons_self ..)).at (k:=j) (by show j < (fl s).length;omega)
  injection e with e
  injection e with e2 e3 _
  subst e2 e3
  dsimp only at h1 h2
  rw [Nat.zero_add,h32j] at h1
  have Hst:=Lib.hid (fld_damage hf (by omega) hs h32j)
  have CD:=ks_damage hk (j:Int) (36 + (s:Int)) ((fl s).getD j []) A' 32 c' h32j.symm ⟨by omega,by omega⟩ ⟨by omega,by omega⟩ h2.rdb (fun i hi=>by rw [hf.gd.ps i (by rw [hf.gd.n] at hi;exact hi)];exact Nat.zero_le _)
  rw [show (36 + (s:Int))=((36 + s:Nat):Int) by omega] at CD
  generalize (fl s).getD j []=x at CD Hst
  obtain ⟨N2,hN2⟩:∃ N2,N.damage (j:Int) ((36 + s:Nat):Int) x=N2:=⟨_,rfl⟩
  rw [hN2] at CD Hst
  rw [show ((36 + s:Nat):Int)=36 + (s:Int) by omega] at CD
  have CD:=Lib.hid CD
  clear HX hk hf hN2 h2 h32j h32 hln
  go_wp2_with fail
  (with_reducible refine CD.out.mono ?_);rintro e w1 ⟨rfl,H2,k2⟩
  have K2:=Lib.hid k2
  clear k2
  go_wp2_with fail
  exact HK.out _ _ _ _ _ _ _ _ _ _ _ _ _ _ _ _ _ _ _ _ _ _ _ H2 N2 _ ⟨by omega,K2.out,Hst.out⟩ (by omega)
 ·have i1:¬ (j:Int) < (D:Int):=by omega
  have Hin:=Lib.hid (show j=D by omega)
  clear HK hk hf
  go_wp2_with fail
  exact HX.out _ _ _ _ _ _ _ _ _ _ _ _ _ _ _ _ _ _ _ _ _ _ _ Hin.out
set_option maxRecDepth 100000 in
set_option maxHeartbeats 3200000 in
theorem flI {W0:World} {m D b g s:Nat} {KK:List (Nat × Obj)} {fl:Nat→List (List UInt8)} {H0:BH} {N0:Bch} {w:World} (u0 u2 u3 u4 u5 u6 u8 u13 u14 u15 u16 u17 u18 u19 u20 u21 u22 u23 u24 u25 u26 u27 u28 u29 u30 u31 u32 u33 u34 u35 u36 u37 u38 u39 u40 u41 u42 u43 u44 u45 u46 u47 u48 u49 u50 u51 u52 u53 u54 u55 u56 u57 u58 u59 u60 u61 u62 u63 u64 u65 u66:Value) (Q:Exit→Act→World→Prop) (hs:s < 16) (hD:D ≤ m) (hm:m ≤ 8) (hln:(fl s).length=D) (h32:∀ i,i < D→((fl s).getD i []).length=32) (hI:(0 ≤ D∧KS W0 w b H0 N0 KK [(some ⟨g,0,none⟩,fl s)] []∧Fld N0 m D fl s 0))
    (hX:∀ (v43 v44 v45 v46 v47 v48 v49 v50 v51 v52 v53 v54 v55 v56 v57 v58 v59 v60 v61 v62 v63 v64 v65:Value) (j:Nat) (H:BH) (N:Bch) (V:World),(j ≤ D∧KS W0 V b H N KK [(some ⟨g,0,none⟩,fl s)] []∧Fld N m D fl s j)→(j=D)→Q (.exit 2) ⟨List.toArray (u0::(.int .i64 (m:Int))::u2::u3::u4::u5::u6::(.pointer (some ⟨b,0,none⟩))::u8::(.int .i64 (s:Int))::(.slice (some ⟨g,0,none⟩) D D)::(.bool true)::(.int .i64 ((j:Nat):Int))::u13::u14::u15::u16::u17::u18::u19::u20::u21::u22::u23::u24::u25::u26::u27::u28::u29::u30::u31::u32::u33::u34::u35::u36::u37::u38::u39::u40::u41::u42::v43::v44::v45::v46::v47::v48::v49::v50::v51::v52::v53::v54::v55::v56::v57::v58::v59::v60::v61::v62::v63::v64::v65::u66::[]),[]⟩ V) :
    Code.wp Tryz.prog (.loop (sub [1,1,1,0,1,0,0,1,0,0,1,1,0,0] codeFld)) Q ⟨List.toArray (u0::(.int .i64 (m:Int))::u2::u3::u4::u5::u6::(.pointer (some ⟨b,0,none⟩))::u8::(.int .i64 (s:Int))::(.slice (some ⟨g,0,none⟩) D D)::(.bool true)::(.int .i64 ((0:Nat):Int))::u13::u14::u15::u16::u17::u18::u19::u20::u21::u22::u23::u24::u25::u26::u27::u28::u29::u30::u31::u32::u33::u34::u35::u36::u37::u38::u39::u40::u41::u42::u43::u44::u45::u46::u47::u48::u49::u50::u51::u52::u53::u54::u55::u56::u57::u58::u59::u60::u61::u62::u63::u64::u65::u66::[]),[]⟩ w:=by
 refine wp_loop_ghost (fun gk a V=>∀ C:Prop,(∀ (u43 u44 u45 u46 u47 u48 u49 u50 u51 u52 u53 u54 u55 u56 u57 u58 u59 u60 u61 u62 u63 u64 u65:Value) (j:Nat) (H:BH) (N:Bch),gk=D - j→(j ≤ D∧KS W0 V b H N KK [(some ⟨g,0,none⟩,fl s)] []∧Fld N m D fl s j)→a=⟨List.toArray (u0::(.int .i64 (m:Int))::u2::u3::u4::u5::u6::(.pointer (some ⟨b,0,none⟩))::u8::(.int .i64 (s:Int))::(.slice (some ⟨g,0,none⟩) D D)::(.bool true)::(.int .i64 ((j:Nat):Int))::u13::u14::u15::u16::u17::u18::u19::u20::u21::u22::u23::u24::u25::u26::u27::u28::u29::u30::u31::u32::u33::u34::u35::u36::u37::u38::u39::u40::u41::u42::u43::u44::u45::u46::u47::u48::u49::u50::u51::u52::u53::u54::u55::u56::u57::u58::u59::u60::u61::u62::u63::u64::u65::u66::[]),[]⟩→C)→C) (D - 0) ?_ ?_
 ·intro C hC
  exact hC _ _ _ _ _ _ _ _ _ _ _ _ _ _ _ _ _ _ _ _ _ _ _ (0) (H0) (N0) rfl hI rfl
 ·intro gk a V hI'
  refine hI' _ ?_
  intro u43 u44 u45 u46 u47 u48 u49 u50 u51 u52 u53 u54 u55 u56 u57 u58 u59 u60 u61 u62 u63 u64 u65 j H N hk hinv ha
  subst ha
  subst hk
  refine flIb _ _ _ _ _ _ _ _ _ _ _ _ _ _ _ _ _ _ _ _ _ _ _ _ _ _ _ _ _ _ _ _ _ _ _ _ _ _ _ _ _ _ _ _ _ _ _ _ _ _ _ _ _ _ _ _ _ _ _ _ _ _ _ hs hD hm hln h32 hinv (fun v43 v44 v45 v46 v47 v48 v49 v50 v51 v52 v53 v54 v55 v56 v57 v58 v59 v60 v61 v62 v63 v64 v65 H2 N2 V2 h2 hm=>?_) (fun v43 v44 v45 v46 v47 v48 v49 v50 v51 v52 v53 v54 v55 v56 v57 v58 v59 v60 v61 v62 v63 v64 v65 hx=>hX v43 v44 v45 v46 v47 v48 v49 v50 v51 v52 v53 v54 v55 v56 v57 v58 v59 v60 v61 v62 v63 v64 v65 j H N V hinv hx)
  refine ⟨_,hm,fun C hC=>?_⟩
  exact hC v43 v44 v45 v46 v47 v48 v49 v50 v51 v52 v53 v54 v55 v56 v57 v58 v59 v60 v61 v62 v63 v64 v65 ((j + 1)) (H2) (N2) rfl h2 rfl
set_option maxRecDepth 100000 in
set_option maxHeartbeats 3200000 in
theorem flOb {W0:World} {n l c r:Int} {D F W m b gb cp:Nat} {A:Option Addr} {zs:List Int} {s:Nat} {H:BH} {N:Bch} {w:World} (u4 u5 u6 u8 u10 u11 u12 u13 u14 u15 u16 u17 u18 u19 u20 u21 u22 u23 u24 u25 u26 u27 u28 u29 u30 u31 u32 u33 u34 u35 u36 u37 u38 u39 u40 u41 u42 u43 u44 u45 u46 u47 u48 u49 u50 u51 u52 u53 u54 u55 u56 u57 u58 u59 u60 u61 u62 u63 u64 u65 u66:Value) (K:Act→World→Prop) (Q0:Exit→Act→World→Prop) (gr:Gr n l c r D F W) (hD:D ≤ m) (hm:m ≤ 8) (hz:RdZ W0 W0.heap.size A zs) (hcp:zs.length ≤ cp) (hI:(s ≤ 16∧KS W0 w b H N [(gb,Obj.cells #[.int .i64 l,.int .i64 (D:Int),.int .i64 c] 25 (0,0))] [] []∧Fld N m D (rowL l c D W zs) s 0))
    (hK:∀ (v10 v11 v12 v24 v25 v26 v27 v28 v29 v30 v31 v32 v33 v34 v35 v36 v37 v38 v39 v40 v41 v42 v43 v44 v45 v46 v47 v48 v49 v50 v51 v52 v53 v54 v55 v56 v57 v58 v59 v60 v61 v62 v63 v64 v65:Value) (H2:BH) (N2:Bch) (V:World),((s + 1) ≤ 16∧KS W0 V b H2 N2 [(gb,Obj.cells #[.int .i64 l,.int .i64 (D:Int),.int .i64 c] 25 (0,0))] [] []∧Fld N2 m D (rowL l c D W zs) (s + 1) 0)→16 - (s + 1) < 16 - s→K ⟨List.toArray ((.agg #[.int .i64 l,.int .i64 (D:Int),.int .i64 c])::(.int .i64 (m:Int))::(.slice A zs.length cp)::(.pointer (some ⟨gb,0,none⟩))::u4::u5::u6::(.pointer (some ⟨b,0,none⟩))::u8::(.int .i64 (((s + 1):Nat):Int))::v10::v11::v12::u13::u14::u15::u16::u17::u18::u19::u20::u21::u22::u23::v24::v25::v26::v27::v28::v29::v30::v31::v32::v33::v34::v35::v36::v37::v38::v39::v40::v41::v42::v43::v44::v45::v46::v47::v48::v49::v50::v51::v52::v53::v54::v55::v56::v57::v58::v59::v60::v61::v62::v63::v64::v65::u66::[]),[]⟩ V)
    (hX:∀ (v10 v11 v12 v24 v25 v26 v27 v28 v29 v30 v31 v32 v33 v34 v35 v36 v37 v38 v39 v40 v41 v42 v43 v44 v45 v46 v47 v48 v49 v50 v51 v52 v53 v54 v55 v56 v57 v58 v59 v60 v61 v62 v63 v64 v65:Value),(s=16)→Q0 (.exit 0) ⟨List.toArray ((.agg #[.int .i64 l,.int .i64 (D:Int),.int .i64 c])::(.int .i64 (m:Int))::(.slice A zs.length cp)::(.pointer (some ⟨gb,0,none⟩))::u4::u5::u6::(.pointer (some ⟨b,0,none⟩))::u8::(.int .i64 ((s:Nat):Int))::v10::v11::v12::u13::u14::u15::u16::u17::u18::u19::u20::u21::u22::u23::v24::v25::v26::v27::v28::v29::v30::v31::v32::v33::v34::v35::v36::v37::v38::v39::v40::v41::v42::v43::v44::v45::v46::v47::v48::v49::v50::v51::v52::v53::v54::v55::v56::v57::v58::v59::v60::v61::v62::v63::v64::v65::u66::[]),[]⟩ w) :
    Code.wp Tryz.prog (sub [1,1,1,0,1,0,0] codeFld) (Exit.then K Q0) ⟨List.toArray ((.agg #[.int .i64 l,.int .i64 (D:Int),.int .i64 c])::(.int .i64 (m:Int))::(.slice A zs.length cp)::(.pointer (some ⟨gb,0,none⟩))::u4::u5::u6::(.pointer (some ⟨b,0,none⟩))::u8::(.int .i64 ((s:Nat):Int))::u10::u11::u12::u13::u14::u15::u16::u17::u18::u19::u20::u21::u22::u23::u24::u25::u26::u27::u28::u29::u30::u31::u32::u33::u34::u35::u36::u37::u38::u39::u40::u41::u42::u43::u44::u45::u46::u47::u48::u49::u50::u51::u52::u53::u54::u55::u56::u57::u58::u59::u60::u61::u62::u63::u64::u65::u66::[]),[]⟩ w:=by
 have HK:=Lib.hid hK
 have HX:=Lib.hid hX
 clear hK hX
 conv=>arg 2;whnf
 obtain ⟨hs,hk,hf⟩:=hI
 have Hk:=Lib.hid hk
 have Hf:=Lib.hid hf
 by_cases hlt:s < 16
 ·have hs16:=hlt
  have i0:(0:Int) ≤ (s:Int):=by omega
  have i1:(s:Int) < 16:=by omega
  have grs:=gr.at hlt
  have hw7:=gr.w7
  have hd8:=gr.d8
  have HR:=Lib.hid (fun V=>refWidth_any l (D:Int) c V gr.l64 gr.d64 gr.c64)
  rw [gr.wd] at HR
  obtain ⟨k,hkk⟩:∃ k,min s zs.length=k:=⟨_,rfl⟩
  have hkl:k ≤ zs.length:=by omega
  have hzl:=hz.1
  have hmin:(if zs.length < s then (zs.length:Int) else (s:Int))=(k:Int):=by split <;> omega
  have Hdt:Hid (datL zs s W=sectorsB (zs.drop k) W):=Lib.hid (by unfold datL;rw [hkk])
  have hbw:Below W0.heap.size W0 w:=hk.bp.bel
  have CS:=Lib.hid (fun V (hb:Below w.heap.size w V)=>show Calls Tryz.prog 27 #[.slice (if cp=k then A else A.map (·.add k)) (zs.length - k) (cp - k),.int .i64 (W:Int)] V fun e w'=>∃ A' c',e=.returned (.slice A' W c')∧RdR w' w'.heap.size A' (datL zs s W)∧Below V.heap.size V w' from by
   rw [Hdt.out]
   have hb0:=hbw.trans (hb.mono hbw.size)
   refine (sectors_rd (A:=if cp=k then A else A.map (·.add k)) (cp:=cp - k) (show zs.length - k=(zs.drop k).length by simp) (((hz.below hb0 (Nat.le_refl _)).keep hb0.size (fun _ _=>rfl)).drop k cp hcp) (by omega)).mono ?_
   rintro e w' ⟨A',c',h1,_,h3,h4⟩
   exact ⟨A',c',h1,h3,h4⟩)
  have CF:=Lib.hid (fun (A2:Option Addr) (c2:Nat) V (hrd:RdR V V.heap.size A2 (datL zs s W))=>refFill_good (cp:=c2) hrd (datL_len zs s W) (grs.fok (datL_len zs s W) datL_mem) grs.eD rfl gr.l64 gr.d64 gr.c64 grs.r64)
  have H32:=Lib.hid (fun i (hi:i < D)=>rowL_32 gr (zs:=zs) hlt hi)
  obtain ⟨g1,g2,g3⟩:=hk.gat (List.mem_cons_self ..)
  have Hgb:=Lib.hid (Array.getElem?_eq_some_iff.1 (hk.kx.kp _ (List.mem_cons_self ..)).1).1
  have k0:(0:Int) ≤ (k:Int):=by omega
  have k1:(k:Int) ≤ (zs.length:Int):=by omega
  have k2:(k:Int) ≤ (cp:Int):=by omega
  have hcap:(zs.length:Int) ≤ (cp:Int):=by omega
  clear HX hk hf hkk hbw hz gr grs
  by_cases hck:cp=k
  ·rw [if_pos hck] at CS
   subst hck
   rw [show zs.length - cp=0 by omega,Nat.sub_self] at CS
   go_wp2_with fail
   refine wp_region_noPanic (region_ord 17 [] (fun V=>Below w.heap.size w V) (by kernel_rfl) (by kernel_rfl) (fun _ _ _ _ _ h=>h) fun R=>?_)
   change anyI _ _ _ _ _ _ 17 _ _ w.drew
   have HS0:=Lib.hid (show (fun V=>Below w.heap.size w V) w.drew from (Below.refl _ _).drew)
   refine' anyI_take R 0 rfl (v:=?_) (by kernel_rfl) (by rfl) (fun V hV=>?hy) HS0.out ?_
   case hy=>((try dsimp only at hV); have y0:=(hV.cell (p:=⟨gb,0,none⟩) Hgb.out).trans g1;have y1:=(hV.cell (p:=⟨gb,1,none⟩) Hgb.out).trans g2;have y2:=(hV.cell (p:=⟨gb,2,none⟩) Hgb.out).trans g3;go_simp;try with_reducible rfl)
   try simp only [Act.put,List.getElem_toArray,List.getElem_cons_succ,List.getElem_cons_zero,List.setIfInBounds_toArray,List.set_cons_zero,List.set_cons_succ]
   refine' anyI_take R 1 rfl (v:=?_) (by kernel_rfl) (by rfl) (fun V hV=>?hy) HS0.out ?_
   case hy=>((try dsimp only at hV); have y0:=(hV.cell (p:=⟨gb,0,none⟩) Hgb.out).trans g1;have y1:=(hV.cell (p:=⟨gb,1,none⟩) Hgb.out).trans g2;have y2:=(hV.cell (p:=⟨gb,2,none⟩) Hgb.out).trans g3;go_simp;try with_reducible rfl)
   try simp only [Act.put,List.getElem_toArray,List.getElem_cons_succ,List.getElem_cons_zero,List.setIfInBounds_toArray,List.set_cons_zero,List.set_cons_succ]
   refine' anyI_take R 2 rfl (v:=?_) (by kernel_rfl) (by rfl) (fun V hV=>?hy) HS0.out ?_
   case hy=>((try dsimp only at hV); have y0:=(hV.cell (p:=⟨gb,0,none⟩) Hgb.out).trans g1;have y1:=(hV.cell (p:=⟨gb,1,none⟩) Hgb.out).trans g2;have y2:=(hV.cell (p:=⟨gb,2,none⟩) Hgb.out).trans g3;go_simp;try with_reducible rfl)
   try simp only [Act.put,List.getElem_toArray,List.getElem_cons_succ,List.getElem_cons_zero,List.setIfInBounds_toArray,List.set_cons_zero,List.set_cons_succ]
   refine' anyI_take R 3 rfl (v:=?_) (by kernel_rfl) (by rfl) (fun V hV=>?hy) HS0.out ?_
   case hy=>((try dsimp only at hV); have y0:=(hV.cell (p:=⟨gb,0,none⟩) Hgb.out).trans g1;have y1:=(hV.cell (p:=⟨gb,1,none⟩) Hgb.out).trans g2;have y2:=(hV.cell (p:=⟨gb,2,none⟩) Hgb.out).trans g3;go_simp;try with_reducible rfl)
   try simp only [Act.put,List.getElem_toArray,List.getElem_cons_succ,List.getElem_cons_zero,List.setIfInBounds_toArray,List.set_cons_zero,List.set_cons_succ]
   refine' anyI_take R 4 rfl (v:=?_) (by kernel_rfl) (by rfl) (fun V hV=>?hy) HS0.out ?_
   case hy=>((try dsimp only at hV); have y0:=(hV.cell (p:=⟨gb,0,none⟩) Hgb.out).trans g1;have y1:=(hV.cell (p:=⟨gb,1,none⟩) Hgb.out).trans g2;have y2:=(hV.cell (p:=⟨gb,2,none⟩) Hgb.out).trans g3;go_simp;try with_reducible rfl)
   try simp only [Act.put,List.getElem_toArray,List.getElem_cons_succ,List.getElem_cons_zero,List.setIfInBounds_toArray,List.set_cons_zero,List.set_cons_succ]
   refine' anyI_take R 5 rfl (v:=?_) (by kernel_rfl) (by rfl) (fun V hV=>?hy) HS0.out ?_
   case hy=>((try dsimp only at hV); have y0:=(hV.cell (p:=⟨gb,0,none⟩) Hgb.out).trans g1;have y1:=(hV.cell (p:=⟨gb,1,none⟩) Hgb.out).trans g2;have y2:=(hV.cell (p:=⟨gb,2,none⟩) Hgb.out).trans g3;go_simp;try with_reducible rfl)
   try simp only [Act.put,List.getElem_toArray,List.getElem_cons_succ,List.getElem_cons_zero,List.setIfInBounds_toArray,List.set_cons_zero,List.set_cons_succ]
   refine' anyI_take R 6 rfl (v:=?_) (by kernel_rfl) (by rfl) (fun V hV=>?hy) HS0.out ?_
   case hy=>((try dsimp only at hV); have y0:=(hV.cell (p:=⟨gb,0,none⟩) Hgb.out).trans g1;have y1:=(hV.cell (p:=⟨gb,1,none⟩) Hgb.out).trans g2;have y2:=(hV.cell (p:=⟨gb,2,none⟩) Hgb.out).trans g3;go_simp;try with_reducible rfl)
   try simp only [Act.put,List.getElem_toArray,List.getElem_cons_succ,List.getElem_cons_zero,List.setIfInBounds_toArray,List.set_cons_zero,List.set_cons_succ]
   refine' anyI_take R 7 rfl (v:=?_) (by kernel_rfl) (by rfl) (fun V hV=>?hy) HS0.out ?_
   case hy=>((try dsimp only at hV); have y0:=(hV.cell (p:=⟨gb,0,none⟩) Hgb.out).trans g1;have y1:=(hV.cell (p:=⟨gb,1,none⟩) Hgb.out).trans g2;have y2:=(hV.cell (p:=⟨gb,2,none⟩) Hgb.out).trans g3;go_simp;try with_reducible rfl)
   try simp only [Act.put,List.getElem_toArray,List.getElem_cons_succ,List.getElem_cons_zero,List.setIfInBounds_toArray,List.set_cons_zero,List.set_cons_succ]
   refine' anyI_take R 8 rfl (v:=?_) (by kernel_rfl) (by rfl) (fun V hV=>?hy) HS0.out ?_
   case hy=>((try dsimp only at hV); have y0:=(hV.cell (p:=⟨gb,0,none⟩) Hgb.out).trans g1;have y1:=(hV.cell (p:=⟨gb,1,none⟩) Hgb.out).trans g2;have y2:=(hV.cell (p:=⟨gb,2,none⟩) Hgb.out).trans g3;go_simp;try with_reducible rfl)
   try simp only [Act.put,List.getElem_toArray,List.getElem_cons_succ,List.getElem_cons_zero,List.setIfInBounds_toArray,List.set_cons_zero,List.set_cons_succ]
   refine anyI_one 9 (by kernel_rfl) rfl ?_
   try simp only [List.getElem_toArray,List.getElem_cons_succ,List.getElem_cons_zero]
   refine opE_step ?_
   rw [if_pos (by rfl)]
   go_simp
   go_at_call 28
   (with_reducible refine (HR.out _).mono ?_)
   rintro e w9 ⟨rfl,hb9⟩
   replace HS0:=Lib.hid (show Below w.heap.size w w9 from HS0.out.trans (hb9.mono HS0.out.size))
   clear hb9
   try dsimp only
   refine ⟨HS0.out,?_⟩
   try simp only [Act.put,List.getElem_toArray,List.getElem_cons_succ,List.getElem_cons_zero,List.setIfInBounds_toArray,List.set_cons_zero,List.set_cons_succ]
   refine anyI_one 10 (by kernel_rfl) rfl ?_
   try simp only [List.getElem_toArray,List.getElem_cons_succ,List.getElem_cons_zero]
   refine opE_step ?_
   rw [if_pos (by rfl)]
   go_simp
   go_at_call 27
   (with_reducible refine (CS.out _ HS0.out).mono ?_)
   rintro e w10 ⟨A2,c2,rfl,hrd,hb10⟩
   have CF1:=Lib.hid (CF.out A2 c2 _ hrd)
   replace HS0:=Lib.hid (show Below w.heap.size w w10 from HS0.out.trans (hb10.mono HS0.out.size))
   clear hb10 hrd
   try dsimp only
   refine ⟨HS0.out,?_⟩
   try simp only [Act.put,List.getElem_toArray,List.getElem_cons_succ,List.getElem_cons_zero,List.setIfInBounds_toArray,List.set_cons_zero,List.set_cons_succ]
   refine anyI_one 11 (by kernel_rfl) rfl ?_
   try simp only [List.getElem_toArray,List.getElem_cons_succ,List.getElem_cons_zero]
   refine opE_step ?_
   rw [if_pos (by rfl)]
   go_simp
   go_at_call 23
   have hsz:=HS0.out.size
   (with_reducible refine CF1.out.mono ?_)
   rintro e w11 ⟨g,xs,rfl,hq,hb11⟩
   replace HS0:=Lib.hid (show Below w.heap.size w w11 from HS0.out.trans (hb11.mono HS0.out.size))
   have Hrf:=Lib.hid (show RdF w.heap.size w11 (some ⟨g,0,none⟩) (rowL l c D W zs s) from (hq.le hsz).rdf (by omega))
   clear hb11 hq
   try dsimp only
   refine ⟨HS0.out,?_⟩
   try simp only [Act.put,List.getElem_toArray,List.getElem_cons_succ,List.getElem_cons_zero,List.setIfInBounds_toArray,List.set_cons_zero,List.set_cons_succ]
   refine' anyI_take R 12 rfl (v:=?_) (by kernel_rfl) (by rfl) (fun V hV=>?hy) HS0.out ?_
   case hy=>((try dsimp only at hV); have y0:=(hV.cell (p:=⟨gb,0,none⟩) Hgb.out).trans g1;have y1:=(hV.cell (p:=⟨gb,1,none⟩) Hgb.out).trans g2;have y2:=(hV.cell (p:=⟨gb,2,none⟩) Hgb.out).trans g3;go_simp;try with_reducible rfl)
   try simp only [Act.put,List.getElem_toArray,List.getElem_cons_succ,List.getElem_cons_zero,List.setIfInBounds_toArray,List.set_cons_zero,List.set_cons_succ]
   refine' anyI_take R 13 rfl (v:=?_) (by kernel_rfl) (by rfl) (fun V hV=>?hy) HS0.out ?_
   case hy=>((try dsimp only at hV); have y0:=(hV.cell (p:=⟨gb,0,none⟩) Hgb.out).trans g1;have y1:=(hV.cell (p:=⟨gb,1,none⟩) Hgb.out).trans g2;have y2:=(hV.cell (p:=⟨gb,2,none⟩) Hgb.out).trans g3;go_simp;try with_reducible rfl)
   try simp only [Act.put,List.getElem_toArray,List.getElem_cons_succ,List.getElem_cons_zero,List.setIfInBounds_toArray,List.set_cons_zero,List.set_cons_succ]
   refine' anyI_take R 14 rfl (v:=?_) (by kernel_rfl) (by rfl) (fun V hV=>?hy) HS0.out ?_
   case hy=>((try dsimp only at hV); have y0:=(hV.cell (p:=⟨gb,0,none⟩) Hgb.out).trans g1;have y1:=(hV.cell (p:=⟨gb,1,none⟩) Hgb.out).trans g2;have y2:=(hV.cell (p:=⟨gb,2,none⟩) Hgb.out).trans g3;go_simp;try with_reducible rfl)
   try simp only [Act.put,List.getElem_toArray,List.getElem_cons_succ,List.getElem_cons_zero,List.setIfInBounds_toArray,List.set_cons_zero,List.set_cons_succ]
   refine' anyI_take R 15 rfl (v:=?_) (by kernel_rfl) (by rfl) (fun V hV=>?hy) HS0.out ?_
   case hy=>((try dsimp only at hV); have y0:=(hV.cell (p:=⟨gb,0,none⟩) Hgb.out).trans g1;have y1:=(hV.cell (p:=⟨gb,1,none⟩) Hgb.out).trans g2;have y2:=(hV.cell (p:=⟨gb,2,none⟩) Hgb.out).trans g3;go_simp;try with_reducible rfl)
   try simp only [Act.put,List.getElem_toArray,List.getElem_cons_succ,List.getElem_cons_zero,List.setIfInBounds_toArray,List.set_cons_zero,List.set_cons_succ]
   refine' anyI_take R 16 rfl (v:=?_) (by kernel_rfl) (by rfl) (fun V hV=>?hy) HS0.out ?_
   case hy=>((try dsimp only at hV); have y0:=(hV.cell (p:=⟨gb,0,none⟩) Hgb.out).trans g1;have y1:=(hV.cell (p:=⟨gb,1,none⟩) Hgb.out).trans g2;have y2:=(hV.cell (p:=⟨gb,2,none⟩) Hgb.out).trans g3;go_simp;try with_reducible rfl)
   try simp only [Act.put,List.getElem_toArray,List.getElem_cons_succ,List.getElem_cons_zero,List.setIfInBounds_toArray,List.set_cons_zero,List.set_cons_succ]
   refine anyI_tail (by kernel_rfl) ?_
   try simp only [List.drop_succ_cons,List.drop_zero]
   clear R
   go_wp2_with fail
   refine NoPanic.normal ?_
   have F2:=HS0.out
   have Hks:=Lib.hid (Hk.out.rows F2 Hrf.out)
   clear F2
   go_upto_block 2 with fail
   refine wp_block ?_
   refine flI _ _ _ _ _ _ _ _ _ _ _ _ _ _ _ _ _ _ _ _ _ _ _ _ _ _ _ _ _ _ _ _ _ _ _ _ _ _ _ _ _ _ _ _ _ _ _ _ _ _ _ _ _ _ _ _ _ _ _ _ _ _ hs16 hD hm (rowL_len _ _ _ _ _ _) H32.out ⟨Nat.zero_le _,Hks.out,Hf.out⟩ (fun v43 v44 v45 v46 v47 v48 v49 v50 v51 v52 v53 v54 v55 v56 v57 v58 v59 v60 v61 v62 v63 v64 v65 j H3 N3 V3 hI3 hx3=>?_)
   subst hx3
   have K3:=Lib.hid (hI3.2.1.less (R':=[]) (S':=[]) (fun _ h=>h) (fun _ h=>absurd h (by simp)) (fun _ h=>h))
   have F3:=Lib.hid (fld_next hI3.2.2)
   clear hI3
   go_wp2_with fail
   exact HK.out _ _ _ _ _ _ _ _ _ _ _ _ _ _ _ _ _ _ _ _ _ _ _ _ _ _ _ _ _ _ _ _ _ _ _ _ _ _ _ _ _ _ _ _ _ H3 N3 _ ⟨by omega,K3.out,F3.out⟩ (by omega)
  ·rw [if_neg hck] at CS
   go_wp2_with fail
   refine wp_region_noPanic (region_ord 17 [] (fun V=>Below w.heap.size w V) (by kernel_rfl) (by kernel_rfl) (fun _ _ _ _ _ h=>h) fun R=>?_)
   change anyI _ _ _ _ _ _ 17 _ _ w.drew
   have HS0:=Lib.hid (show (fun V=>Below w.heap.size w V) w.drew from (Below.refl _ _).drew)
   refine' anyI_take R 0 rfl (v:=?_) (by kernel_rfl) (by rfl) (fun V hV=>?hy) HS0.out ?_
   case hy=>((try dsimp only at hV); have y0:=(hV.cell (p:=⟨gb,0,none⟩) Hgb.out).trans g1;have y1:=(hV.cell (p:=⟨gb,1,none⟩) Hgb.out).trans g2;have y2:=(hV.cell (p:=⟨gb,2,none⟩) Hgb.out).trans g3;go_simp;try with_reducible rfl)
   try simp only [Act.put,List.getElem_toArray,List.getElem_cons_succ,List.getElem_cons_zero,List.setIfInBounds_toArray,List.set_cons_zero,List.set_cons_succ]
   refine' anyI_take R 1 rfl (v:=?_) (by kernel_rfl) (by rfl) (fun V hV=>?hy) HS0.out ?_
   case hy=>((try dsimp only at hV); have y0:=(hV.cell (p:=⟨gb,0,none⟩) Hgb.out).trans g1;have y1:=(hV.cell (p:=⟨gb,1,none⟩) Hgb.out).trans g2;have y2:=(hV.cell (p:=⟨gb,2,none⟩) Hgb.out).trans g3;go_simp;try with_reducible rfl)
   try simp only [Act.put,List.getElem_toArray,List.getElem_cons_succ,List.getElem_cons_zero,List.setIfInBounds_toArray,List.set_cons_zero,List.set_cons_succ]
   refine' anyI_take R 2 rfl (v:=?_) (by kernel_rfl) (by rfl) (fun V hV=>?hy) HS0.out ?_
   case hy=>((try dsimp only at hV); have y0:=(hV.cell (p:=⟨gb,0,none⟩) Hgb.out).trans g1;have y1:=(hV.cell (p:=⟨gb,1,none⟩) Hgb.out).trans g2;have y2:=(hV.cell (p:=⟨gb,2,none⟩) Hgb.out).trans g3;go_simp;try with_reducible rfl)
   try simp only [Act.put,List.getElem_toArray,List.getElem_cons_succ,List.getElem_cons_zero,List.setIfInBounds_toArray,List.set_cons_zero,List.set_cons_succ]
   refine' anyI_take R 3 rfl (v:=?_) (by kernel_rfl) (by rfl) (fun V hV=>?hy) HS0.out ?_
   case hy=>((try dsimp only at hV); have y0:=(hV.cell (p:=⟨gb,0,none⟩) Hgb.out).trans g1;have y1:=(hV.cell (p:=⟨gb,1,none⟩) Hgb.out).trans g2;have y2:=(hV.cell (p:=⟨gb,2,none⟩) Hgb.out).trans g3;go_simp;try with_reducible rfl)
   try simp only [Act.put,List.getElem_toArray,List.getElem_cons_succ,List.getElem_cons_zero,List.setIfInBounds_toArray,List.set_cons_zero,List.set_cons_succ]
   refine' anyI_take R 4 rfl (v:=?_) (by kernel_rfl) (by rfl) (fun V hV=>?hy) HS0.out ?_
   case hy=>((try dsimp only at hV); have y0:=(hV.cell (p:=⟨gb,0,none⟩) Hgb.out).trans g1;have y1:=(hV.cell (p:=⟨gb,1,none⟩) Hgb.out).trans g2;have y2:=(hV.cell (p:=⟨gb,2,none⟩) Hgb.out).trans g3;go_simp;try with_reducible rfl)
   try simp only [Act.put,List.getElem_toArray,List.getElem_cons_succ,List.getElem_cons_zero,List.setIfInBounds_toArray,List.set_cons_zero,List.set_cons_succ]
   refine' anyI_take R 5 rfl (v:=?_) (by kernel_rfl) (by rfl) (fun V hV=>?hy) HS0.out ?_
   case hy=>((try dsimp only at hV); have y0:=(hV.cell (p:=⟨gb,0,none⟩) Hgb.out).trans g1;have y1:=(hV.cell (p:=⟨gb,1,none⟩) Hgb.out).trans g2;have y2:=(hV.cell (p:=⟨gb,2,none⟩) Hgb.out).trans g3;go_simp;try with_reducible rfl)
   try simp only [Act.put,List.getElem_toArray,List.getElem_cons_succ,List.getElem_cons_zero,List.setIfInBounds_toArray,List.set_cons_zero,List.set_cons_succ]
   refine' anyI_take R 6 rfl (v:=?_) (by kernel_rfl) (by rfl) (fun V hV=>?hy) HS0.out ?_
   case hy=>((try dsimp only at hV); have y0:=(hV.cell (p:=⟨gb,0,none⟩) Hgb.out).trans g1;have y1:=(hV.cell (p:=⟨gb,1,none⟩) Hgb.out).trans g2;have y2:=(hV.cell (p:=⟨gb,2,none⟩) Hgb.out).trans g3;go_simp;try with_reducible rfl)
   try simp only [Act.put,List.getElem_toArray,List.getElem_cons_succ,List.getElem_cons_zero,List.setIfInBounds_toArray,List.set_cons_zero,List.set_cons_succ]
   refine' anyI_take R 7 rfl (v:=?_) (by kernel_rfl) (by rfl) (fun V hV=>?hy) HS0.out ?_
   case hy=>((try dsimp only at hV); have y0:=(hV.cell (p:=⟨gb,0,none⟩) Hgb.out).trans g1;have y1:=(hV.cell (p:=⟨gb,1,none⟩) Hgb.out).trans g2;have y2:=(hV.cell (p:=⟨gb,2,none⟩) Hgb.out).trans g3;go_simp;try with_reducible rfl)
   try simp only [Act.put,List.getElem_toArray,List.getElem_cons_succ,List.getElem_cons_zero,List.setIfInBounds_toArray,List.set_cons_zero,List.set_cons_succ]
   refine' anyI_take R 8 rfl (v:=?_) (by kernel_rfl) (by rfl) (fun V hV=>?hy) HS0.out ?_
   case hy=>((try dsimp only at hV); have y0:=(hV.cell (p:=⟨gb,0,none⟩) Hgb.out).trans g1;have y1:=(hV.cell (p:=⟨gb,1,none⟩) Hgb.out).trans g2;have y2:=(hV.cell (p:=⟨gb,2,none⟩) Hgb.out).trans g3;go_simp;try with_reducible rfl)
   try simp only [Act.put,List.getElem_toArray,List.getElem_cons_succ,List.getElem_cons_zero,List.setIfInBounds_toArray,List.set_cons_zero,List.set_cons_succ]
   refine anyI_one 9 (by kernel_rfl) rfl ?_
   try simp only [List.getElem_toArray,List.getElem_cons_succ,List.getElem_cons_zero]
   refine opE_step ?_
   rw [if_pos (by rfl)]
   go_simp
   go_at_call 28
   (with_reducible refine (HR.out _).mono ?_)
   rintro e w9 ⟨rfl,hb9⟩
   replace HS0:=Lib.hid (show Below w.heap.size w w9 from HS0.out.trans (hb9.mono HS0.out.size))
   clear hb9
   try dsimp only
   refine ⟨HS0.out,?_⟩
   try simp only [Act.put,List.getElem_toArray,List.getElem_cons_succ,List.getElem_cons_zero,List.setIfInBounds_toArray,List.set_cons_zero,List.set_cons_succ]
   refine anyI_one 10 (by kernel_rfl) rfl ?_
   try simp only [List.getElem_toArray,List.getElem_cons_succ,List.getElem_cons_zero]
   refine opE_step ?_
   rw [if_pos (by rfl)]
   go_simp
   go_at_call 27
   (with_reducible refine (CS.out _ HS0.out).mono ?_)
   rintro e w10 ⟨A2,c2,rfl,hrd,hb10⟩
   have CF1:=Lib.hid (CF.out A2 c2 _ hrd)
   replace HS0:=Lib.hid (show Below w.heap.size w w10 from HS0.out.trans (hb10.mono HS0.out.size))
   clear hb10 hrd
   try dsimp only
   refine ⟨HS0.out,?_⟩
   try simp only [Act.put,List.getElem_toArray,List.getElem_cons_succ,List.getElem_cons_zero,List.setIfInBounds_toArray,List.set_cons_zero,List.set_cons_succ]
   refine anyI_one 11 (by kernel_rfl) rfl ?_
   try simp only [List.getElem_toArray,List.getElem_cons_succ,List.getElem_cons_zero]
   refine opE_step ?_
   rw [if_pos (by rfl)]
   go_simp
   go_at_call 23
   have hsz:=HS0.out.size
   (with_reducible refine CF1.out.mono ?_)
   rintro e w11 ⟨g,xs,rfl,hq,hb11⟩
   replace HS0:=Lib.hid (show Below w.heap.size w w11 from HS0.out.trans (hb11.mono HS0.out.size))
   have Hrf:=Lib.hid (show RdF w.heap.size w11 (some ⟨g,0,none⟩) (rowL l c D W zs s) from (hq.le hsz).rdf (by omega))
   clear hb11 hq
   try dsimp only
   refine ⟨HS0.out,?_⟩
   try simp only [Act.put,List.getElem_toArray,List.getElem_cons_succ,List.getElem_cons_zero,List.setIfInBounds_toArray,List.set_cons_zero,List.set_cons_succ]
   refine' anyI_take R 12 rfl (v:=?_) (by kernel_rfl) (by rfl) (fun V hV=>?hy) HS0.out ?_
   case hy=>((try dsimp only at hV); have y0:=(hV.cell (p:=⟨gb,0,none⟩) Hgb.out).trans g1;have y1:=(hV.cell (p:=⟨gb,1,none⟩) Hgb.out).trans g2;have y2:=(hV.cell (p:=⟨gb,2,none⟩) Hgb.out).trans g3;go_simp;try with_reducible rfl)
   try simp only [Act.put,List.getElem_toArray,List.getElem_cons_succ,List.getElem_cons_zero,List.setIfInBounds_toArray,List.set_cons_zero,List.set_cons_succ]
   refine' anyI_take R 13 rfl (v:=?_) (by kernel_rfl) (by rfl) (fun V hV=>?hy) HS0.out ?_
   case hy=>((try dsimp only at hV); have y0:=(hV.cell (p:=⟨gb,0,none⟩) Hgb.out).trans g1;have y1:=(hV.cell (p:=⟨gb,1,none⟩) Hgb.out).trans g2;have y2:=(hV.cell (p:=⟨gb,2,none⟩) Hgb.out).trans g3;go_simp;try with_reducible rfl)
   try simp only [Act.put,List.getElem_toArray,List.getElem_cons_succ,List.getElem_cons_zero,List.setIfInBounds_toArray,List.set_cons_zero,List.set_cons_succ]
   refine' anyI_take R 14 rfl (v:=?_) (by kernel_rfl) (by rfl) (fun V hV=>?hy) HS0.out ?_
   case hy=>((try dsimp only at hV); have y0:=(hV.cell (p:=⟨gb,0,none⟩) Hgb.out).trans g1;have y1:=(hV.cell (p:=⟨gb,1,none⟩) Hgb.out).trans g2;have y2:=(hV.cell (p:=⟨gb,2,none⟩) Hgb.out).trans g3;go_simp;try with_reducible rfl)
   try simp only [Act.put,List.getElem_toArray,List.getElem_cons_succ,List.getElem_cons_zero,List.setIfInBounds_toArray,List.set_cons_zero,List.set_cons_succ]
   refine' anyI_take R 15 rfl (v:=?_) (by kernel_rfl) (by rfl) (fun V hV=>?hy) HS0.out ?_
   case hy=>((try dsimp only at hV); have y0:=(hV.cell (p:=⟨gb,0,none⟩) Hgb.out).trans g1;have y1:=(hV.cell (p:=⟨gb,1,none⟩) Hgb.out).trans g2;have y2:=(hV.cell (p:=⟨gb,2,none⟩) Hgb.out).trans g3;go_simp;try with_reducible rfl)
   try simp only [Act.put,List.getElem_toArray,List.getElem_cons_succ,List.getElem_cons_zero,List.setIfInBounds_toArray,List.set_cons_zero,List.set_cons_succ]
   refine' anyI_take R 16 rfl (v:=?_) (by kernel_rfl) (by rfl) (fun V hV=>?hy) HS0.out ?_
   case hy=>((try dsimp only at hV); have y0:=(hV.cell (p:=⟨gb,0,none⟩) Hgb.out).trans g1;have y1:=(hV.cell (p:=⟨gb,1,none⟩) Hgb.out).trans g2;have y2:=(hV.cell (p:=⟨gb,2,none⟩) Hgb.out).trans g3;go_simp;try with_reducible rfl)
   try simp only [Act.put,List.getElem_toArray,List.getElem_cons_succ,List.getElem_cons_zero,List.setIfInBounds_toArray,List.set_cons_zero,List.set_cons_succ]
   refine anyI_tail (by kernel_rfl) ?_
   try simp only [List.drop_succ_cons,List.drop_zero]
   clear R
   go_wp2_with fail
   refine NoPanic.normal ?_
   have F2:=HS0.out
   have Hks:=Lib.hid (Hk.out.rows F2 Hrf.out)
   clear F2
   go_upto_block 2 with fail
   refine wp_block ?_
   refine flI _ _ _ _ _ _ _ _ _ _ _ _ _ _ _ _ _ _ _ _ _ _ _ _ _ _ _ _ _ _ _ _ _ _ _ _ _ _ _ _ _ _ _ _ _ _ _ _ _ _ _ _ _ _ _ _ _ _ _ _ _ _ hs16 hD hm (rowL_len _ _ _ _ _ _) H32.out ⟨Nat.zero_le _,Hks.out,Hf.out⟩ (fun v43 v44 v45 v46 v47 v48 v49 v50 v51 v52 v53 v54 v55 v56 v57 v58 v59 v60 v61 v62 v63 v64 v65 j H3 N3 V3 hI3 hx3=>?_)
   subst hx3
   have K3:=Lib.hid (hI3.2.1.less (R':=[]) (S':=[]) (fun _ h=>h) (fun _ h=>absurd h (by simp)) (fun _ h=>h))
   have F3:=Lib.hid (fld_next hI3.2.2)
   clear hI3
   go_wp2_with fail
   exact HK.out _ _ _ _ _ _ _ _ _ _ _ _ _ _ _ _ _ _ _ _ _ _ _ _ _ _ _ _ _ _ _ _ _ _ _ _ _ _ _ _ _ _ _ _ _ H3 N3 _ ⟨by omega,K3.out,F3.out⟩ (by omega)
 ·have i1:¬ (s:Int) < 16:=by omega
  have Hin:=Lib.hid (show s=16 by omega)
  clear HK hk hf
  go_wp2_with fail
  exact HX.out _ _ _ _ _ _ _ _ _ _ _ _ _ _ _ _ _ _ _ _ _ _ _ _ _ _ _ _ _ _ _ _ _ _ _ _ _ _ _ _ _ _ _ _ _ Hin.out
set_option maxRecDepth 100000 in
set_option maxHeartbeats 3200000 in
theorem flO {W0:World} {n l c r:Int} {D F W m b gb cp:Nat} {A:Option Addr} {zs:List Int} {H0:BH} {N0:Bch} {w:World} (u4 u5 u6 u8 u10 u11 u12 u13 u14 u15 u16 u17 u18 u19 u20 u21 u22 u23 u24 u25 u26 u27 u28 u29 u30 u31 u32 u33 u34 u35 u36 u37 u38 u39 u40 u41 u42 u43 u44 u45 u46 u47 u48 u49 u50 u51 u52 u53 u54 u55 u56 u57 u58 u59 u60 u61 u62 u63 u64 u65 u66:Value) (Q:Exit→Act→World→Prop) (gr:Gr n l c r D F W) (hD:D ≤ m) (hm:m ≤ 8) (hz:RdZ W0 W0.heap.size A zs) (hcp:zs.length ≤ cp) (hI:(0 ≤ 16∧KS W0 w b H0 N0 [(gb,Obj.cells #[.int .i64 l,.int .i64 (D:Int),.int .i64 c] 25 (0,0))] [] []∧Fld N0 m D (rowL l c D W zs) 0 0))
    (hX:∀ (v10 v11 v12 v24 v25 v26 v27 v28 v29 v30 v31 v32 v33 v34 v35 v36 v37 v38 v39 v40 v41 v42 v43 v44 v45 v46 v47 v48 v49 v50 v51 v52 v53 v54 v55 v56 v57 v58 v59 v60 v61 v62 v63 v64 v65:Value) (s:Nat) (H:BH) (N:Bch) (V:World),(s ≤ 16∧KS W0 V b H N [(gb,Obj.cells #[.int .i64 l,.int .i64 (D:Int),.int .i64 c] 25 (0,0))] [] []∧Fld N m D (rowL l c D W zs) s 0)→(s=16)→Q (.exit 0) ⟨List.toArray ((.agg #[.int .i64 l,.int .i64 (D:Int),.int .i64 c])::(.int .i64 (m:Int))::(.slice A zs.length cp)::(.pointer (some ⟨gb,0,none⟩))::u4::u5::u6::(.pointer (some ⟨b,0,none⟩))::u8::(.int .i64 ((s:Nat):Int))::v10::v11::v12::u13::u14::u15::u16::u17::u18::u19::u20::u21::u22::u23::v24::v25::v26::v27::v28::v29::v30::v31::v32::v33::v34::v35::v36::v37::v38::v39::v40::v41::v42::v43::v44::v45::v46::v47::v48::v49::v50::v51::v52::v53::v54::v55::v56::v57::v58::v59::v60::v61::v62::v63::v64::v65::u66::[]),[]⟩ V) :
    Code.wp Tryz.prog (.loop (sub [1,1,1,0,1,0,0] codeFld)) Q ⟨List.toArray ((.agg #[.int .i64 l,.int .i64 (D:Int),.int .i64 c])::(.int .i64 (m:Int))::(.slice A zs.length cp)::(.pointer (some ⟨gb,0,none⟩))::u4::u5::u6::(.pointer (some ⟨b,0,none⟩))::u8::(.int .i64 ((0:Nat):Int))::u10::u11::u12::u13::u14::u15::u16::u17::u18::u19::u20::u21::u22::u23::u24::u25::u26::u27::u28::u29::u30::u31::u32::u33::u34::u35::u36::u37::u38::u39::u40::u41::u42::u43::u44::u45::u46::u47::u48::u49::u50::u51::u52::u53::u54::u55::u56::u57::u58::u59::u60::u61::u62::u63::u64::u65::u66::[]),[]⟩ w:=by
 refine wp_loop_ghost (fun gk a V=>∀ C:Prop,(∀ (u10 u11 u12 u24 u25 u26 u27 u28 u29 u30 u31 u32 u33 u34 u35 u36 u37 u38 u39 u40 u41 u42 u43 u44 u45 u46 u47 u48 u49 u50 u51 u52 u53 u54 u55 u56 u57 u58 u59 u60 u61 u62 u63 u64 u65:Value) (s:Nat) (H:BH) (N:Bch),gk=16 - s→(s ≤ 16∧KS W0 V b H N [(gb,Obj.cells #[.int .i64 l,.int .i64 (D:Int),.int .i64 c] 25 (0,0))] [] []∧Fld N m D (rowL l c D W zs) s 0)→a=⟨List.toArray ((.agg #[.int .i64 l,.int .i64 (D:Int),.int .i64 c])::(.int .i64 (m:Int))::(.slice A zs.length cp)::(.pointer (some ⟨gb,0,none⟩))::u4::u5::u6::(.pointer (some ⟨b,0,none⟩))::u8::(.int .i64 ((s:Nat):Int))::u10::u11::u12::u13::u14::u15::u16::u17::u18::u19::u20::u21::u22::u23::u24::u25::u26::u27::u28::u29::u30::u31::u32::u33::u34::u35::u36::u37::u38::u39::u40::u41::u42::u43::u44::u45::u46::u47::u48::u49::u50::u51::u52::u53::u54::u55::u56::u57::u58::u59::u60::u61::u62::u63::u64::u65::u66::[]),[]⟩→C)→C) (16 - 0) ?_ ?_
 ·intro C hC
  exact hC _ _ _ _ _ _ _ _ _ _ _ _ _ _ _ _ _ _ _ _ _ _ _ _ _ _ _ _ _ _ _ _ _ _ _ _ _ _ _ _ _ _ _ _ _ (0) (H0) (N0) rfl hI rfl
 ·intro gk a V hI'
  refine hI' _ ?_
  intro u10 u11 u12 u24 u25 u26 u27 u28 u29 u30 u31 u32 u33 u34 u35 u36 u37 u38 u39 u40 u41 u42 u43 u44 u45 u46 u47 u48 u49 u50 u51 u52 u53 u54 u55 u56 u57 u58 u59 u60 u61 u62 u63 u64 u65 s H N hk hinv ha
  subst ha
  subst hk
  refine flOb _ _ _ _ _ _ _ _ _ _ _ _ _ _ _ _ _ _ _ _ _ _ _ _ _ _ _ _ _ _ _ _ _ _ _ _ _ _ _ _ _ _ _ _ _ _ _ _ _ _ _ _ _ _ _ _ _ _ _ _ _ _ _ gr hD hm hz hcp hinv (fun v10 v11 v12 v24 v25 v26 v27 v28 v29 v30 v31 v32 v33 v34 v35 v36 v37 v38 v39 v40 v41 v42 v43 v44 v45 v46 v47 v48 v49 v50 v51 v52 v53 v54 v55 v56 v57 v58 v59 v60 v61 v62 v63 v64 v65 H2 N2 V2 h2 hm=>?_) (fun v10 v11 v12 v24 v25 v26 v27 v28 v29 v30 v31 v32 v33 v34 v35 v36 v37 v38 v39 v40 v41 v42 v43 v44 v45 v46 v47 v48 v49 v50 v51 v52 v53 v54 v55 v56 v57 v58 v59 v60 v61 v62 v63 v64 v65 hx=>hX v10 v11 v12 v24 v25 v26 v27 v28 v29 v30 v31 v32 v33 v34 v35 v36 v37 v38 v39 v40 v41 v42 v43 v44 v45 v46 v47 v48 v49 v50 v51 v52 v53 v54 v55 v56 v57 v58 v59 v60 v61 v62 v63 v64 v65 s H N V hinv hx)
  refine ⟨_,hm,fun C hC=>?_⟩
  exact hC v10 v11 v12 v24 v25 v26 v27 v28 v29 v30 v31 v32 v33 v34 v35 v36 v37 v38 v39 v40 v41 v42 v43 v44 v45 v46 v47 v48 v49 v50 v51 v52 v53 v54 v55 v56 v57 v58 v59 v60 v61 v62 v63 v64 v65 ((s + 1)) (H2) (N2) rfl h2 rfl
set_option maxRecDepth 100000 in
set_option maxHeartbeats 3200000 in
theorem stpFilled_any {n l c r:Int} {D F W:Nat} (gr:Gr n l c r D F W) (m:Nat) (hD:D ≤ m) (hm:m ≤ 8) (A:Option Addr) (zs:List Int) (k cp:Nat) (w:World) (hk:k=zs.length) (hcp:zs.length ≤ cp) (hz:RdZ w w.heap.size A zs) :
    Calls Tryz.prog 6 #[.agg #[.int .i64 l,.int .i64 (D:Int),.int .i64 c],.int .i64 (m:Int),.slice A k cp] w fun e w'=>∃ b H N,e=.returned (.pointer (some ⟨b,0,none⟩))∧KS w w' b H N [] [] []∧Fld N m D (rowL l c D W zs) 16 0:=by
 subst hk
 have hpn:=ptr_eq
 have hd3:=gr.d3
 have B1:=below1 w (.cells #[.int .i64 l,.int .i64 (D:Int),.int .i64 c] 25)
 have CN:=Lib.hid (bp_new m w _ B1 (by omega))
 have hz1:(w.alloc (.cells #[.int .i64 l,.int .i64 (D:Int),.int .i64 c] 25)).heap.size=w.heap.size + 1:=by simp
 have hh:=hp_new w (.cells #[.int .i64 l,.int .i64 (D:Int),.int .i64 c] 25) _ rfl
 have Gr':=Lib.hid gr
 have Hz:=Lib.hid hz
 clear gr hz B1
 go_enter Tryz.func6,Tryz.ntmps6
 go_wp2_with fail
 refine CN.out.mono ?_
 rintro e w1 ⟨b,H,rfl,hp,hb1,hlo⟩
 unfold ptr
 have HK0:=Lib.hid (show KS w w1 b H (Bch.new m) [(w.heap.size,Obj.cells #[.int .i64 l,.int .i64 (D:Int),.int .i64 c] 25 (0,0))] [] [] from by
  refine ⟨⟨hp,fun p hp'=>?_⟩,fun _ hp=>absurd hp (by simp),fun _ hp=>absurd hp (by simp)⟩
  rw [List.mem_singleton.1 hp']
  exact ⟨(hb1.block w.heap.size (by rw [hz1];omega)).trans hh,fun e=>by have:=hlo _ e;rw [hz1] at this;omega,Nat.le_refl _⟩)
 have HF0:=Lib.hid (fld_new m D (rowL l c D W zs))
 clear hp hb1 hlo hh CN
 go_upto_block 0 with fail
 refine wp_block ?_
 refine flO _ _ _ _ _ _ _ _ _ _ _ _ _ _ _ _ _ _ _ _ _ _ _ _ _ _ _ _ _ _ _ _ _ _ _ _ _ _ _ _ _ _ _ _ _ _ _ _ _ _ _ _ _ _ _ _ _ _ _ _ _ _ Gr'.out hD hm Hz.out hcp ⟨Nat.zero_le _,HK0.out,HF0.out⟩ (fun v10 v11 v12 v24 v25 v26 v27 v28 v29 v30 v31 v32 v33 v34 v35 v36 v37 v38 v39 v40 v41 v42 v43 v44 v45 v46 v47 v48 v49 v50 v51 v52 v53 v54 v55 v56 v57 v58 v59 v60 v61 v62 v63 v64 v65 s H2 N2 V2 hI hx=>?_)
 subst hx
 have HK2:=Lib.hid (hI.2.1.less (K':=[]) (R':=[]) (S':=[]) (fun _ h=>absurd h (by simp)) (fun _ h=>h) (fun _ h=>h))
 have HF2:=Lib.hid hI.2.2
 clear hI
 go_wp2_with fail
 go_ret
 exact ⟨b,H2,N2,rfl,HK2.out,HF2.out⟩
end Go.Proofs.YtldfoadildaljaaGreat
end
