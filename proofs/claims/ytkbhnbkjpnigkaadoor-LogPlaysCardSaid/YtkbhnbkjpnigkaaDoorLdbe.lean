/- Texts put together: LogPlaysA, LogPlaysB. -/
import Derived.Test.YtkbhnbkjpnigkaaDoorLdbd
import Derived.Test.YtkbhnbkjpnigkaaDoorLdad
import Derived.Test.YtkbhnbkjpnigkaaDoorLdaa
section
set_option linter.unusedVariables false
set_option linter.unusedSimpArgs false
namespace Go.Proofs.YtkbhnbkjpnigkaaDoor
open Go.RowKit

noncomputable def codeLP : Code := Tryd.f5.body.getD .skip
set_option maxRecDepth 100000 in
set_option maxHeartbeats 3200000 in
theorem lpA {z1 : Int} {zb zo zl cl b hv i : Nat}{w0 : World} {w : World} (u1 u2 u4 u7 u8 u9 u10 u11 u12 u13 u14 u15 u16 u17 u18 u19 u20 u21 u22 u23 u24 u25 u26 u27 u28 u29 u30 u31 u32 u33 u34 u35 u36 u37 u38 u39 u40 u41 u42 u43 u44 u45 u46 u47 u48 u49 u50 u51 u52 u53 u54 u55 u56 u57 u58 u59 u60 u61 u62 u63 u64 u65 u66 u67 u68 u69 u70 u71 u72 u73 u74 u75 u76 u77 u78 u79 u80 u81 u82 u83 u84 u85 u86 u87 u88 u89 u90 u91 u92 u93 u94 u95 u96 u97 u98 u99 ua0 ua1 ua2 ua3 ua4 ua5 ua6 ua7 ua8 ua9 ub0 ub1 ub2 ub3 ub4 ub5 ub6 ub7 ub8 ub9 uc0 uc1 uc2 uc3 uc4 uc5 uc6 uc7 uc8 uc9 ud0 ud1 ud2 ud3 ud4 ud5 ud6 ud7 ud8 ud9 ue0 ue1 ue2 ue3 ue4 ue5 ue6 ue7 ue8 ue9 uf0 uf1 uf2 uf3 uf4 uf5 uf6 uf7 uf8 uf9 ug0 ug1 ug2 ug3 ug4 ug5 ug6 ug7 ug8 ug9 uh0 uh1 uh2 uh3 uh4 uh5 uh6 uh7 uh8 uh9 ui0 ui1 ui2 ui3 ui4 ui5 ui6 ui7 ui8 ui9 uj0 uj1 uj2 uj3 uj4 uj5 uj6 uj7 uj8 uj9 uk0 uk1 uk2 uk3 uk4 uk5 uk6 uk7 uk8 uk9 ul0 ul1 ul2 ul3 ul4 ul5 ul6 ul7 ul8 ul9 um0 um1 um2 um3 um4 um5 um6 um7 um8 um9 un0 un1 un2 un3 un4 un5 un6 un7 un8 un9 uo0 uo1 uo2 uo3 uo4 uo5 uo6 uo7 uo8 uo9 up0 up1 up2 up3 up4 up5 up6 up7 up8 up9 uq0 uq1 uq2 uq3 uq4 uq5 uq6 uq7 uq8 uq9 ur0 ur1 ur2 ur3 ur4 ur5 ur6 ur7 ur8 ur9 us0 us1 us2 us3 us4 us5 us6 us7 us8 us9 ut0 ut1 ut2 ut3 ut4 ut5 ut6 ut7 ut8 ut9 uu0 uu1 uu2 uu3 uu4 uu5 uu6 uu7 uu8 uu9 uv0 uv1 uv2 uv3 uv4 uv5 uv6 uv7 uv8 uv9 uw0 uw1 uw2 uw3 : Value) (K : Act → World → Prop) (Q0 : Exit → Act → World → Prop) (hi : i < 60) (hz : i + 3 < zl) (hz1 : (-9223372036854775808 ≤ z1 ∧ z1 ≤ 9223372036854775807)) (hc : w.cell? ⟨zb, zo + (i + 1), none⟩ = some (.int .i64 z1)) 
    (hK : ∀ (v52 v53 v54 v55 v56 v57 : Value) (lg : Nat) (V : World), V.heap[lg]? = some (.cells ((liveL z1 4).map Value.bool).toArray 4 (0, 0)) → w.heap.size ≤ lg → Below w.heap.size w V → K ⟨List.toArray ((.slice (some ⟨zb, zo, none⟩) zl cl)::u1::u2::(.pointer (some ⟨b, 0, none⟩))::u4::(.pointer (some ⟨hv, 0, none⟩))::(.int .i64 ((i : Nat) : Int))::(.slice (some ⟨lg, 0, none⟩) 4 4)::u8::u9::u10::u11::u12::u13::u14::u15::u16::u17::u18::u19::u20::u21::u22::u23::u24::u25::u26::u27::u28::u29::u30::u31::u32::u33::u34::u35::u36::u37::u38::u39::u40::u41::u42::u43::u44::u45::u46::u47::u48::u49::u50::u51::v52::v53::v54::v55::v56::v57::u58::u59::u60::u61::u62::u63::u64::u65::u66::u67::u68::u69::u70::u71::u72::u73::u74::u75::u76::u77::u78::u79::u80::u81::u82::u83::u84::u85::u86::u87::u88::u89::u90::u91::u92::u93::u94::u95::u96::u97::u98::u99::ua0::ua1::ua2::ua3::ua4::ua5::ua6::ua7::ua8::ua9::ub0::ub1::ub2::ub3::ub4::ub5::ub6::ub7::ub8::ub9::uc0::uc1::uc2::uc3::uc4::uc5::uc6::uc7::uc8::uc9::ud0::ud1::ud2::ud3::ud4::ud5::ud6::ud7::ud8::ud9::ue0::ue1::ue2::ue3::ue4::ue5::ue6::ue7::ue8::ue9::uf0::uf1::uf2::uf3::uf4::uf5::uf6::uf7::uf8::uf9::ug0::ug1::ug2::ug3::ug4::ug5::ug6::ug7::ug8::ug9::uh0::uh1::uh2::uh3::uh4::uh5::uh6::uh7::uh8::uh9::ui0::ui1::ui2::ui3::ui4::ui5::ui6::ui7::ui8::ui9::uj0::uj1::uj2::uj3::uj4::uj5::uj6::uj7::uj8::uj9::uk0::uk1::uk2::uk3::uk4::uk5::uk6::uk7::uk8::uk9::ul0::ul1::ul2::ul3::ul4::ul5::ul6::ul7::ul8::ul9::um0::um1::um2::um3::um4::um5::um6::um7::um8::um9::un0::un1::un2::un3::un4::un5::un6::un7::un8::un9::uo0::uo1::uo2::uo3::uo4::uo5::uo6::uo7::uo8::uo9::up0::up1::up2::up3::up4::up5::up6::up7::up8::up9::uq0::uq1::uq2::uq3::uq4::uq5::uq6::uq7::uq8::uq9::ur0::ur1::ur2::ur3::ur4::ur5::ur6::ur7::ur8::ur9::us0::us1::us2::us3::us4::us5::us6::us7::us8::us9::ut0::ut1::ut2::ut3::ut4::ut5::ut6::ut7::ut8::ut9::uu0::uu1::uu2::uu3::uu4::uu5::uu6::uu7::uu8::uu9::uv0::uv1::uv2::uv3::uv4::uv5::uv6::uv7::uv8::uv9::uw0::uw1::uw2::uw3::[]), []⟩ V) :
    Code.wp Tryd.prog (sub [1, 1, 1, 1, 0, 1, 0, 0, 1, 0, 0, 0] codeLP) (Exit.then K Q0) ⟨List.toArray ((.slice (some ⟨zb, zo, none⟩) zl cl)::u1::u2::(.pointer (some ⟨b, 0, none⟩))::u4::(.pointer (some ⟨hv, 0, none⟩))::(.int .i64 ((i : Nat) : Int))::u7::u8::u9::u10::u11::u12::u13::u14::u15::u16::u17::u18::u19::u20::u21::u22::u23::u24::u25::u26::u27::u28::u29::u30::u31::u32::u33::u34::u35::u36::u37::u38::u39::u40::u41::u42::u43::u44::u45::u46::u47::u48::u49::u50::u51::u52::u53::u54::u55::u56::u57::u58::u59::u60::u61::u62::u63::u64::u65::u66::u67::u68::u69::u70::u71::u72::u73::u74::u75::u76::u77::u78::u79::u80::u81::u82::u83::u84::u85::u86::u87::u88::u89::u90::u91::u92::u93::u94::u95::u96::u97::u98::u99::ua0::ua1::ua2::ua3::ua4::ua5::ua6::ua7::ua8::ua9::ub0::ub1::ub2::ub3::ub4::ub5::ub6::ub7::ub8::ub9::uc0::uc1::uc2::uc3::uc4::uc5::uc6::uc7::uc8::uc9::ud0::ud1::ud2::ud3::ud4::ud5::ud6::ud7::ud8::ud9::ue0::ue1::ue2::ue3::ue4::ue5::ue6::ue7::ue8::ue9::uf0::uf1::uf2::uf3::uf4::uf5::uf6::uf7::uf8::uf9::ug0::ug1::ug2::ug3::ug4::ug5::ug6::ug7::ug8::ug9::uh0::uh1::uh2::uh3::uh4::uh5::uh6::uh7::uh8::uh9::ui0::ui1::ui2::ui3::ui4::ui5::ui6::ui7::ui8::ui9::uj0::uj1::uj2::uj3::uj4::uj5::uj6::uj7::uj8::uj9::uk0::uk1::uk2::uk3::uk4::uk5::uk6::uk7::uk8::uk9::ul0::ul1::ul2::ul3::ul4::ul5::ul6::ul7::ul8::ul9::um0::um1::um2::um3::um4::um5::um6::um7::um8::um9::un0::un1::un2::un3::un4::un5::un6::un7::un8::un9::uo0::uo1::uo2::uo3::uo4::uo5::uo6::uo7::uo8::uo9::up0::up1::up2::up3::up4::up5::up6::up7::up8::up9::uq0::uq1::uq2::uq3::uq4::uq5::uq6::uq7::uq8::uq9::ur0::ur1::ur2::ur3::ur4::ur5::ur6::ur7::ur8::ur9::us0::us1::us2::us3::us4::us5::us6::us7::us8::us9::ut0::ut1::ut2::ut3::ut4::ut5::ut6::ut7::ut8::ut9::uu0::uu1::uu2::uu3::uu4::uu5::uu6::uu7::uu8::uu9::uv0::uv1::uv2::uv3::uv4::uv5::uv6::uv7::uv8::uv9::uw0::uw1::uw2::uw3::[]), []⟩ w := by
  have HK := Lib.hid hK
  clear hK
  conv => arg 2; whnf
  have i0 : (0 : Int) ≤ (i : Int) := by omega
  have i2 : IntKind.i64.wrap ((i : Int) + 1) = (i : Int) + 1 := by rw [IntKind.wrap_i64]; omega
  have i3 : IntKind.i64.wrap ((i : Int) + 2) = (i : Int) + 2 := by rw [IntKind.wrap_i64]; omega
  have i4 : IntKind.i64.wrap ((i : Int) + 3) = (i : Int) + 3 := by rw [IntKind.wrap_i64]; omega
  have i5 : (i : Int) + 1 < (zl : Int) := by omega
  have i6 : (i : Int) + 2 < (zl : Int) := by omega
  have i7 : (i : Int) + 3 < (zl : Int) := by omega
  have i8 : (0 : Int) ≤ (i : Int) + 1 := by omega
  have i9 : (0 : Int) ≤ (i : Int) + 2 := by omega
  have iA : (0 : Int) ≤ (i : Int) + 3 := by omega
  have iB : ((i : Int) + 1).toNat = i + 1 := by omega
  have iC : ((i : Int) + 2).toNat = i + 2 := by omega
  have iD : ((i : Int) + 3).toNat = i + 3 := by omega
  have CA := Lib.hid (fun V => live_any z1 4 V hz1 (by omega))
  clear hz1
  go_wp2_with (go_at_call 19; refine (CA.out _).mono ?_; rintro e w7 ⟨lg, rfl, hrow, hlg, hb7⟩)
  exact HK.out _ _ _ _ _ _ lg w7 hrow hlg hb7
theorem rdz_drop {w : World} {B zb zo : Nat} {zs : List Int} (h : RdZ w B (some ⟨zb, zo, none⟩) zs) (m : Nat) (hm : m ≤ zs.length) : RdZ w B (some ⟨zb, zo + m, none⟩) (zs.drop m) := by
  refine ⟨by have := h.1; simp; omega, fun z hz => h.2.1 z (List.mem_of_mem_drop hz), fun hn => ?_⟩
  have hn' : 0 < zs.length := by simp at hn; omega
  obtain ⟨b, off, e, hb, hc⟩ := h.2.2 hn'
  injection e with e
  injection e with e1 e2 _
  subst e1 e2
  refine ⟨zb, zo + m, rfl, hb, fun k hk => ?_⟩
  have := hc (m + k) (by simp at hk; omega)
  rw [← Nat.add_assoc] at this
  rw [this]
  simp [List.getD_eq_getElem?_getD]
set_option maxRecDepth 100000 in
set_option maxHeartbeats 3200000 in
theorem lpB {z2 z3 : Int} {lg : Nat} {zb zo zl cl b hv i : Nat} {w : World} (u1 u2 u4 u8 u9 u10 u11 u12 u13 u14 u15 u16 u17 u18 u19 u20 u21 u22 u23 u24 u25 u26 u27 u28 u29 u30 u31 u32 u33 u34 u35 u36 u37 u38 u39 u40 u41 u42 u43 u44 u45 u46 u47 u48 u49 u50 u51 u52 u53 u54 u55 u56 u57 u58 u59 u60 u61 u62 u63 u64 u65 u66 u67 u68 u69 u70 u71 u72 u73 u74 u75 u76 u77 u78 u79 u80 u81 u82 u83 u84 u85 u86 u87 u88 u89 u90 u91 u92 u93 u94 u95 u96 u97 u98 u99 ua0 ua1 ua2 ua3 ua4 ua5 ua6 ua7 ua8 ua9 ub0 ub1 ub2 ub3 ub4 ub5 ub6 ub7 ub8 ub9 uc0 uc1 uc2 uc3 uc4 uc5 uc6 uc7 uc8 uc9 ud0 ud1 ud2 ud3 ud4 ud5 ud6 ud7 ud8 ud9 ue0 ue1 ue2 ue3 ue4 ue5 ue6 ue7 ue8 ue9 uf0 uf1 uf2 uf3 uf4 uf5 uf6 uf7 uf8 uf9 ug0 ug1 ug2 ug3 ug4 ug5 ug6 ug7 ug8 ug9 uh0 uh1 uh2 uh3 uh4 uh5 uh6 uh7 uh8 uh9 ui0 ui1 ui2 ui3 ui4 ui5 ui6 ui7 ui8 ui9 uj0 uj1 uj2 uj3 uj4 uj5 uj6 uj7 uj8 uj9 uk0 uk1 uk2 uk3 uk4 uk5 uk6 uk7 uk8 uk9 ul0 ul1 ul2 ul3 ul4 ul5 ul6 ul7 ul8 ul9 um0 um1 um2 um3 um4 um5 um6 um7 um8 um9 un0 un1 un2 un3 un4 un5 un6 un7 un8 un9 uo0 uo1 uo2 uo3 uo4 uo5 uo6 uo7 uo8 uo9 up0 up1 up2 up3 up4 up5 up6 up7 up8 up9 uq0 uq1 uq2 uq3 uq4 uq5 uq6 uq7 uq8 uq9 ur0 ur1 ur2 ur3 ur4 ur5 ur6 ur7 ur8 ur9 us0 us1 us2 us3 us4 us5 us6 us7 us8 us9 ut0 ut1 ut2 ut3 ut4 ut5 ut6 ut7 ut8 ut9 uu0 uu1 uu2 uu3 uu4 uu5 uu6 uu7 uu8 uu9 uv0 uv1 uv2 uv3 uv4 uv5 uv6 uv7 uv8 uv9 uw0 uw1 uw2 uw3 : Value) (K : Act → World → Prop) (Q0 : Exit → Act → World → Prop) (hi : i < 60) (hz : i + 3 < zl) (hzc : zl ≤ cl) (hzl : zl ≤ 9223372036854775807) (hz2 : (-9223372036854775808 ≤ z2 ∧ z2 ≤ 9223372036854775807)) (hz3 : (-9223372036854775808 ≤ z3 ∧ z3 ≤ 9223372036854775807)) (hc2 : w.cell? ⟨zb, zo + (i + 2), none⟩ = some (.int .i64 z2)) (hc3 : w.cell? ⟨zb, zo + (i + 3), none⟩ = some (.int .i64 z3)) {zs : List Int} (hzs : RdZ w w.heap.size (some ⟨zb, zo, none⟩) zs) (hzn : zs.length = zl) 
    (hK : ∀ (v58 v59 v60 v61 v62 v63 v64 v65 v66 v67 v68 v69 v70 v71 v72 v73 v74 v75 v76 v77 v78 : Value) (p8 : Nat) (s : Int) (l : List It) (B : Option Addr) (c : Nat) (V : World), (-9223372036854775808 ≤ s ∧ s ≤ 9223372036854775807) → Its64 l → l.length ≤ 6 → OwIt 43 V w.heap.size w.heap.size (.slice B l.length c) l → V.heap[p8]? = some (.cells (List.toArray [.int .i64 s, .slice B l.length c]) 29 (0, 0)) → Below w.heap.size w V → w.heap.size ≤ p8 → (∀ g, B = some ⟨g, 0, none⟩ → g ≠ p8) → K ⟨List.toArray ((.slice (some ⟨zb, zo, none⟩) zl cl)::u1::u2::(.pointer (some ⟨b, 0, none⟩))::u4::(.pointer (some ⟨hv, 0, none⟩))::(.int .i64 ((i : Nat) : Int))::(.slice (some ⟨lg, 0, none⟩) 4 4)::(.pointer (some ⟨p8, 0, none⟩))::u9::u10::u11::u12::u13::u14::u15::u16::u17::u18::u19::u20::u21::u22::u23::u24::u25::u26::u27::u28::u29::u30::u31::u32::u33::u34::u35::u36::u37::u38::u39::u40::u41::u42::u43::u44::u45::u46::u47::u48::u49::u50::u51::u52::u53::u54::u55::u56::u57::v58::v59::v60::v61::v62::v63::v64::v65::v66::v67::v68::v69::v70::v71::v72::v73::v74::v75::v76::v77::v78::u79::u80::u81::u82::u83::u84::u85::u86::u87::u88::u89::u90::u91::u92::u93::u94::u95::u96::u97::u98::u99::ua0::ua1::ua2::ua3::ua4::ua5::ua6::ua7::ua8::ua9::ub0::ub1::ub2::ub3::ub4::ub5::ub6::ub7::ub8::ub9::uc0::uc1::uc2::uc3::uc4::uc5::uc6::uc7::uc8::uc9::ud0::ud1::ud2::ud3::ud4::ud5::ud6::ud7::ud8::ud9::ue0::ue1::ue2::ue3::ue4::ue5::ue6::ue7::ue8::ue9::uf0::uf1::uf2::uf3::uf4::uf5::uf6::uf7::uf8::uf9::ug0::ug1::ug2::ug3::ug4::ug5::ug6::ug7::ug8::ug9::uh0::uh1::uh2::uh3::uh4::uh5::uh6::uh7::uh8::uh9::ui0::ui1::ui2::ui3::ui4::ui5::ui6::ui7::ui8::ui9::uj0::uj1::uj2::uj3::uj4::uj5::uj6::uj7::uj8::uj9::uk0::uk1::uk2::uk3::uk4::uk5::uk6::uk7::uk8::uk9::ul0::ul1::ul2::ul3::ul4::ul5::ul6::ul7::ul8::ul9::um0::um1::um2::um3::um4::um5::um6::um7::um8::um9::un0::un1::un2::un3::un4::un5::un6::un7::un8::un9::uo0::uo1::uo2::uo3::uo4::uo5::uo6::uo7::uo8::uo9::up0::up1::up2::up3::up4::up5::up6::up7::up8::up9::uq0::uq1::uq2::uq3::uq4::uq5::uq6::uq7::uq8::uq9::ur0::ur1::ur2::ur3::ur4::ur5::ur6::ur7::ur8::ur9::us0::us1::us2::us3::us4::us5::us6::us7::us8::us9::ut0::ut1::ut2::ut3::ut4::ut5::ut6::ut7::ut8::ut9::uu0::uu1::uu2::uu3::uu4::uu5::uu6::uu7::uu8::uu9::uv0::uv1::uv2::uv3::uv4::uv5::uv6::uv7::uv8::uv9::uw0::uw1::uw2::uw3::[]), []⟩ V) :
    Code.wp Tryd.prog (sub [1, 1, 1, 1, 0, 1, 0, 0, 1, 0, 0, 1, 0] codeLP) (Exit.then K Q0) ⟨List.toArray ((.slice (some ⟨zb, zo, none⟩) zl cl)::u1::u2::(.pointer (some ⟨b, 0, none⟩))::u4::(.pointer (some ⟨hv, 0, none⟩))::(.int .i64 ((i : Nat) : Int))::(.slice (some ⟨lg, 0, none⟩) 4 4)::u8::u9::u10::u11::u12::u13::u14::u15::u16::u17::u18::u19::u20::u21::u22::u23::u24::u25::u26::u27::u28::u29::u30::u31::u32::u33::u34::u35::u36::u37::u38::u39::u40::u41::u42::u43::u44::u45::u46::u47::u48::u49::u50::u51::u52::u53::u54::u55::u56::u57::u58::u59::u60::u61::u62::u63::u64::u65::u66::u67::u68::u69::u70::u71::u72::u73::u74::u75::u76::u77::u78::u79::u80::u81::u82::u83::u84::u85::u86::u87::u88::u89::u90::u91::u92::u93::u94::u95::u96::u97::u98::u99::ua0::ua1::ua2::ua3::ua4::ua5::ua6::ua7::ua8::ua9::ub0::ub1::ub2::ub3::ub4::ub5::ub6::ub7::ub8::ub9::uc0::uc1::uc2::uc3::uc4::uc5::uc6::uc7::uc8::uc9::ud0::ud1::ud2::ud3::ud4::ud5::ud6::ud7::ud8::ud9::ue0::ue1::ue2::ue3::ue4::ue5::ue6::ue7::ue8::ue9::uf0::uf1::uf2::uf3::uf4::uf5::uf6::uf7::uf8::uf9::ug0::ug1::ug2::ug3::ug4::ug5::ug6::ug7::ug8::ug9::uh0::uh1::uh2::uh3::uh4::uh5::uh6::uh7::uh8::uh9::ui0::ui1::ui2::ui3::ui4::ui5::ui6::ui7::ui8::ui9::uj0::uj1::uj2::uj3::uj4::uj5::uj6::uj7::uj8::uj9::uk0::uk1::uk2::uk3::uk4::uk5::uk6::uk7::uk8::uk9::ul0::ul1::ul2::ul3::ul4::ul5::ul6::ul7::ul8::ul9::um0::um1::um2::um3::um4::um5::um6::um7::um8::um9::un0::un1::un2::un3::un4::un5::un6::un7::un8::un9::uo0::uo1::uo2::uo3::uo4::uo5::uo6::uo7::uo8::uo9::up0::up1::up2::up3::up4::up5::up6::up7::up8::up9::uq0::uq1::uq2::uq3::uq4::uq5::uq6::uq7::uq8::uq9::ur0::ur1::ur2::ur3::ur4::ur5::ur6::ur7::ur8::ur9::us0::us1::us2::us3::us4::us5::us6::us7::us8::us9::ut0::ut1::ut2::ut3::ut4::ut5::ut6::ut7::ut8::ut9::uu0::uu1::uu2::uu3::uu4::uu5::uu6::uu7::uu8::uu9::uv0::uv1::uv2::uv3::uv4::uv5::uv6::uv7::uv8::uv9::uw0::uw1::uw2::uw3::[]), []⟩ w := by
  have HK := Lib.hid hK
  clear hK
  conv => arg 2; whnf
  have i0 : (0 : Int) ≤ (i : Int) := by omega
  have i2 : IntKind.i64.wrap ((i : Int) + 1) = (i : Int) + 1 := by rw [IntKind.wrap_i64]; omega
  have i3 : IntKind.i64.wrap ((i : Int) + 2) = (i : Int) + 2 := by rw [IntKind.wrap_i64]; omega
  have i4 : IntKind.i64.wrap ((i : Int) + 3) = (i : Int) + 3 := by rw [IntKind.wrap_i64]; omega
  have i5 : (i : Int) + 1 < (zl : Int) := by omega
  have i6 : (i : Int) + 2 < (zl : Int) := by omega
  have i7 : (i : Int) + 3 < (zl : Int) := by omega
  have i8 : (0 : Int) ≤ (i : Int) + 1 := by omega
  have i9 : (0 : Int) ≤ (i : Int) + 2 := by omega
  have iA : (0 : Int) ≤ (i : Int) + 3 := by omega
  have iB : ((i : Int) + 1).toNat = i + 1 := by omega
  have iC : ((i : Int) + 2).toNat = i + 2 := by omega
  have iD : ((i : Int) + 3).toNat = i + 3 := by omega
  have W9 := Lib.hid (fun V => within_any z2 9 V hz2 (by omega))
  have b9 := withinI_bd z2 9 (by omega)
  generalize withinI z2 9 = q9 at W9 b9
  have hm1 : -60 < z3.tmod 60 := Int.lt_tmod_of_pos _ (by omega)
  have hm2 : z3.tmod 60 < 60 := Int.tmod_lt_of_pos _ (by omega)
  obtain ⟨r3, hr3⟩ : ∃ r3, z3.tmod 60 = r3 := ⟨_, rfl⟩
  have n1 : IntKind.i64.wrap ((zl : Int) - 2) = (zl : Int) - 2 := by rw [IntKind.wrap_i64]; omega
  have n2 : ¬ ((zl : Int) - 2 < (i : Int) + 2) := by omega
  have n4 : (i : Int) + 2 ≤ (zl : Int) := by omega
  have n5 : ¬ cl = i + 2 := by omega
  have n3 : IntKind.i64.wrap r3 = r3 := by rw [IntKind.wrap_i64]; omega
  have CO := Lib.hid (fun V (hV : Below w.heap.size w V) => recOf_any q9 r3 (some ⟨zb, zo + (i + 2), none⟩) (zs.drop (i + 2)) (cl - (i + 2)) V (by omega) (by omega) ((rdz_drop hzs (i + 2) (by omega)).keep hV.size fun p hp => hV.cell hp))
  rw [show (zs.drop (i + 2)).length = zl - (i + 2) by rw [List.length_drop, hzn]] at CO
  have HC := Lib.hid (fun V (hV : Below w.heap.size w V) => And.intro ((hV.cell (p := ⟨zb, zo + (i + 2), none⟩) (World.block_lt_of_cell? _ _ hc2)).trans hc2) ((hV.cell (p := ⟨zb, zo + (i + 3), none⟩) (World.block_lt_of_cell? _ _ hc3)).trans hc3))
  clear hc2 hc3 hz2 hz3 hzs hzn
  refine wp_region_noPanic (region_ord 22 [] (fun V => Below w.heap.size w V) (by kernel_rfl) (by kernel_rfl) (fun _ _ _ _ _ h => h) fun R => ?_)
  change anyI _ _ _ _ _ _ 23 _ _ w.drew
  have HS0 := Lib.hid (show (fun V => Below w.heap.size w V) w.drew from (Below.refl _ _).drew)
  obtain ⟨V0, hV0⟩ : ∃ V, w.drew = V := ⟨_, rfl⟩
  rw [hV0] at HS0 ⊢
  clear hV0
  refine' anyI_take R 0 rfl (v := ?_) (by kernel_rfl) (by rfl) (fun V hV => ?hy) HS0.out ?_
  case hy => ((try dsimp only at hV);  have hc2 := (HC.out V hV).1; have hc3 := (HC.out V hV).2; go_simp; try with_reducible rfl)
  try simp only [Act.put, List.getElem_toArray, List.getElem_cons_succ, List.getElem_cons_zero, List.setIfInBounds_toArray, List.set_cons_zero, List.set_cons_succ]
  refine' anyI_take R 1 rfl (v := ?_) (by kernel_rfl) (by rfl) (fun V hV => ?hy) HS0.out ?_
  case hy => ((try dsimp only at hV);  have hc2 := (HC.out V hV).1; have hc3 := (HC.out V hV).2; go_simp; try with_reducible rfl)
  try simp only [Act.put, List.getElem_toArray, List.getElem_cons_succ, List.getElem_cons_zero, List.setIfInBounds_toArray, List.set_cons_zero, List.set_cons_succ]
  refine' anyI_take R 2 rfl (v := ?_) (by kernel_rfl) (by rfl) (fun V hV => ?hy) HS0.out ?_
  case hy => ((try dsimp only at hV);  have hc2 := (HC.out V hV).1; have hc3 := (HC.out V hV).2; go_simp; try with_reducible rfl)
  try simp only [Act.put, List.getElem_toArray, List.getElem_cons_succ, List.getElem_cons_zero, List.setIfInBounds_toArray, List.set_cons_zero, List.set_cons_succ]
  refine' anyI_take R 3 rfl (v := ?_) (by kernel_rfl) (by rfl) (fun V hV => ?hy) HS0.out ?_
  case hy => ((try dsimp only at hV);  have hc2 := (HC.out V hV).1; have hc3 := (HC.out V hV).2; go_simp; try with_reducible rfl)
  try simp only [Act.put, List.getElem_toArray, List.getElem_cons_succ, List.getElem_cons_zero, List.setIfInBounds_toArray, List.set_cons_zero, List.set_cons_succ]
  refine' anyI_take R 4 rfl (v := ?_) (by kernel_rfl) (by rfl) (fun V hV => ?hy) HS0.out ?_
  case hy => ((try dsimp only at hV);  have hc2 := (HC.out V hV).1; have hc3 := (HC.out V hV).2; go_simp; try with_reducible rfl)
  try simp only [Act.put, List.getElem_toArray, List.getElem_cons_succ, List.getElem_cons_zero, List.setIfInBounds_toArray, List.set_cons_zero, List.set_cons_succ]
  refine' anyI_take R 6 rfl (v := ?_) (by kernel_rfl) (by rfl) (fun V hV => ?hy) HS0.out ?_
  case hy => ((try dsimp only at hV);  have hc2 := (HC.out V hV).1; have hc3 := (HC.out V hV).2; go_simp; try with_reducible rfl)
  try simp only [Act.put, List.getElem_toArray, List.getElem_cons_succ, List.getElem_cons_zero, List.setIfInBounds_toArray, List.set_cons_zero, List.set_cons_succ]
  refine' anyI_take R 7 rfl (v := ?_) (by kernel_rfl) (by rfl) (fun V hV => ?hy) HS0.out ?_
  case hy => ((try dsimp only at hV);  have hc2 := (HC.out V hV).1; have hc3 := (HC.out V hV).2; go_simp; try with_reducible rfl)
  try simp only [Act.put, List.getElem_toArray, List.getElem_cons_succ, List.getElem_cons_zero, List.setIfInBounds_toArray, List.set_cons_zero, List.set_cons_succ]
  refine' anyI_take R 8 rfl (v := ?_) (by kernel_rfl) (by rfl) (fun V hV => ?hy) HS0.out ?_
  case hy => ((try dsimp only at hV);  have hc2 := (HC.out V hV).1; have hc3 := (HC.out V hV).2; go_simp; try with_reducible rfl)
  try simp only [Act.put, List.getElem_toArray, List.getElem_cons_succ, List.getElem_cons_zero, List.setIfInBounds_toArray, List.set_cons_zero, List.set_cons_succ]
  refine' anyI_take R 9 rfl (v := ?_) (by kernel_rfl) (by rfl) (fun V hV => ?hy) HS0.out ?_
  case hy => ((try dsimp only at hV);  have hc2 := (HC.out V hV).1; have hc3 := (HC.out V hV).2; go_simp; try with_reducible rfl)
  try simp only [Act.put, List.getElem_toArray, List.getElem_cons_succ, List.getElem_cons_zero, List.setIfInBounds_toArray, List.set_cons_zero, List.set_cons_succ]
  refine' anyI_take R 10 rfl (v := ?_) (by kernel_rfl) (by rfl) (fun V hV => ?hy) HS0.out ?_
  case hy => ((try dsimp only at hV);  have hc2 := (HC.out V hV).1; have hc3 := (HC.out V hV).2; go_simp; try with_reducible rfl)
  try simp only [Act.put, List.getElem_toArray, List.getElem_cons_succ, List.getElem_cons_zero, List.setIfInBounds_toArray, List.set_cons_zero, List.set_cons_succ]
  refine' anyI_take R 11 rfl (v := ?_) (by kernel_rfl) (by rfl) (fun V hV => ?hy) HS0.out ?_
  case hy => ((try dsimp only at hV);  have hc2 := (HC.out V hV).1; have hc3 := (HC.out V hV).2; go_simp; try with_reducible rfl)
  try simp only [Act.put, List.getElem_toArray, List.getElem_cons_succ, List.getElem_cons_zero, List.setIfInBounds_toArray, List.set_cons_zero, List.set_cons_succ]
  refine' anyI_take R 12 rfl (v := ?_) (by kernel_rfl) (by rfl) (fun V hV => ?hy) HS0.out ?_
  case hy => ((try dsimp only at hV);  have hc2 := (HC.out V hV).1; have hc3 := (HC.out V hV).2; go_simp; try with_reducible rfl)
  try simp only [Act.put, List.getElem_toArray, List.getElem_cons_succ, List.getElem_cons_zero, List.setIfInBounds_toArray, List.set_cons_zero, List.set_cons_succ]
  refine' anyI_take R 13 rfl (v := ?_) (by kernel_rfl) (by rfl) (fun V hV => ?hy) HS0.out ?_
  case hy => ((try dsimp only at hV);  have hc2 := (HC.out V hV).1; have hc3 := (HC.out V hV).2; go_simp; try with_reducible rfl)
  try simp only [Act.put, List.getElem_toArray, List.getElem_cons_succ, List.getElem_cons_zero, List.setIfInBounds_toArray, List.set_cons_zero, List.set_cons_succ]
  refine' anyI_take R 14 rfl (v := ?_) (by kernel_rfl) (by rfl) (fun V hV => ?hy) HS0.out ?_
  case hy => ((try dsimp only at hV);  have hc2 := (HC.out V hV).1; have hc3 := (HC.out V hV).2; go_simp; try with_reducible rfl)
  try simp only [Act.put, List.getElem_toArray, List.getElem_cons_succ, List.getElem_cons_zero, List.setIfInBounds_toArray, List.set_cons_zero, List.set_cons_succ]
  refine' anyI_take R 15 rfl (v := ?_) (by kernel_rfl) (by rfl) (fun V hV => ?hy) HS0.out ?_
  case hy => ((try dsimp only at hV);  have hc2 := (HC.out V hV).1; have hc3 := (HC.out V hV).2; go_simp; try with_reducible rfl)
  try simp only [Act.put, List.getElem_toArray, List.getElem_cons_succ, List.getElem_cons_zero, List.setIfInBounds_toArray, List.set_cons_zero, List.set_cons_succ]
  refine' anyI_take R 16 rfl (v := ?_) (by kernel_rfl) (by rfl) (fun V hV => ?hy) HS0.out ?_
  case hy => ((try dsimp only at hV);  have hc2 := (HC.out V hV).1; have hc3 := (HC.out V hV).2; go_simp; try with_reducible rfl)
  try simp only [Act.put, List.getElem_toArray, List.getElem_cons_succ, List.getElem_cons_zero, List.setIfInBounds_toArray, List.set_cons_zero, List.set_cons_succ]
  refine' anyI_take R 17 rfl (v := ?_) (by kernel_rfl) (by rfl) (fun V hV => ?hy) HS0.out ?_
  case hy => ((try dsimp only at hV);  have hc2 := (HC.out V hV).1; have hc3 := (HC.out V hV).2; go_simp; try with_reducible rfl)
  try simp only [Act.put, List.getElem_toArray, List.getElem_cons_succ, List.getElem_cons_zero, List.setIfInBounds_toArray, List.set_cons_zero, List.set_cons_succ]
  refine' anyI_take R 18 rfl (v := ?_) (by kernel_rfl) (by rfl) (fun V hV => ?hy) HS0.out ?_
  case hy => ((try dsimp only at hV);  have hc2 := (HC.out V hV).1; have hc3 := (HC.out V hV).2; go_simp; try with_reducible rfl)
  try simp only [Act.put, List.getElem_toArray, List.getElem_cons_succ, List.getElem_cons_zero, List.setIfInBounds_toArray, List.set_cons_zero, List.set_cons_succ]
  refine' anyI_take R 19 rfl (v := ?_) (by kernel_rfl) (by rfl) (fun V hV => ?hy) HS0.out ?_
  case hy => ((try dsimp only at hV);  have hc2 := (HC.out V hV).1; have hc3 := (HC.out V hV).2; go_simp; try with_reducible rfl)
  try simp only [Act.put, List.getElem_toArray, List.getElem_cons_succ, List.getElem_cons_zero, List.setIfInBounds_toArray, List.set_cons_zero, List.set_cons_succ]
  refine anyI_two 5 21 (by kernel_rfl) rfl rfl ?_ ?_
  · try simp only [List.getElem_toArray, List.getElem_cons_succ, List.getElem_cons_zero]
    refine opE_step ?_
    rw [if_pos (by rfl)]
    go_simp
    go_at_call 9
    (with_reducible refine (W9.out _).mono ?_)
    rintro e wx ⟨rfl, hwx⟩
    obtain rfl : V0 = wx := hwx.symm
    clear hwx
    try dsimp only
    refine ⟨HS0.out, ?_⟩
    try simp only [Act.put, List.getElem_toArray, List.getElem_cons_succ, List.getElem_cons_zero, List.setIfInBounds_toArray, List.set_cons_zero, List.set_cons_succ]
    refine anyI_two 20 21 (by kernel_rfl) rfl rfl ?_ ?_
    · try simp only [List.getElem_toArray, List.getElem_cons_succ, List.getElem_cons_zero]
      refine opE_step ?_
      rw [if_pos (by rfl)]
      go_simp
      go_at_call 8
      refine (CO.out V0 HS0.out).mono ?_
      rintro e Va1 ⟨s, l, B, c, rfl, hs, h64, hl6, ho, hb⟩
      have HO := Lib.hid ho
      have HOz := Lib.hid HS0.out.size
      have H64 := Lib.hid h64
      replace HS0 := Lib.hid (HS0.out.trans (hb.mono HS0.out.size))
      clear ho hb h64
      try dsimp only
      refine ⟨HS0.out, ?_⟩
      try simp only [Act.put, List.getElem_toArray, List.getElem_cons_succ, List.getElem_cons_zero, List.setIfInBounds_toArray, List.set_cons_zero, List.set_cons_succ]
      refine anyI_one 21 (by kernel_rfl) rfl ?_
      try simp only [List.getElem_toArray, List.getElem_cons_succ, List.getElem_cons_zero]
      refine opE_step ?_
      rw [if_pos (by rfl)]
      go_simp
      obtain ⟨Va2, hV2⟩ : ∃ Va2, Va1.alloc (.cells #[.int .i64 0, .slice none 0 0] 29 (0, 0)) = Va2 := ⟨_, rfl⟩
      rw [hV2]
      obtain ⟨p8, hp8⟩ : ∃ p8, Va1.heap.size = p8 := ⟨_, rfl⟩
      rw [hp8]
      have BX := below1 Va1 (.cells #[.int .i64 0, .slice none 0 0] 29 (0, 0))
      rw [hV2] at BX
      have HP := Lib.hid (show Va2.heap[p8]? = some (.cells #[.int .i64 0, .slice none 0 0] 29 (0, 0)) from by rw [← hV2, ← hp8]; exact heap_alloc_new _ _)
      have HPz := Lib.hid (show w.heap.size ≤ p8 from by rw [← hp8]; exact HS0.out.size)
      have HBo := Lib.hid BX
      have HPo := Lib.hid (show Va1.heap.size ≤ p8 from Nat.le_of_eq hp8)
      replace HS0 := Lib.hid (HS0.out.trans (BX.mono HS0.out.size))
      clear BX hV2 hp8
      try dsimp only
      refine ⟨HS0.out, ?_⟩
      try simp only [Act.put, List.getElem_toArray, List.getElem_cons_succ, List.getElem_cons_zero, List.setIfInBounds_toArray, List.set_cons_zero, List.set_cons_succ]
      refine anyI_tail (by kernel_rfl) ?_
      try simp only [List.drop_succ_cons, List.drop_zero]
      clear R
      go_wp2_with (refine wpList_store_blk rfl 29 _ _ (by rfl) p8 0 (.agg #[.int .i64 s, .slice B l.length c]) (by rfl) (by rfl) [.int .i64 0, .slice none 0 0] 29 HP.out [.int .i64 s, .slice B l.length c] rfl 2 rfl (by kernel_rfl) (Nat.le_refl 2) (fun u hu => by simp only [List.mem_cons, List.not_mem_nil, or_false] at hu; rcases hu with rfl | rfl <;> rfl) [.int .i64 s, .slice B l.length c] (by rfl) ?_; intro w9 h9 g9)
      refine NoPanic.normal ?_
      have hsz : p8 < Va2.heap.size := (Array.getElem?_eq_some_iff.1 HP.out).1
      exact HK.out _ _ _ _ _ _ _ _ _ _ _ _ _ _ _ _ _ _ _ _ _ p8 s l B c w9 hs H64.out hl6 ((HO.out.below (HBo.out.grown g9 HBo.out.size (fun k e => by injection e with e; have := HPo.out; omega))).le HOz.out HOz.out) h9 (HS0.out.grown g9 HS0.out.size (fun k e => by injection e with e; have := HPz.out; omega)) HPz.out (fun g e => by subst e; have := (HO.out.lt g rfl).2; have := HPo.out; omega)
    · try simp only [List.getElem_toArray, List.getElem_cons_succ, List.getElem_cons_zero]
      refine opE_step ?_
      rw [if_pos (by rfl)]
      go_simp
      obtain ⟨Va1, hV1⟩ : ∃ Va1, V0.alloc (.cells #[.int .i64 0, .slice none 0 0] 29 (0, 0)) = Va1 := ⟨_, rfl⟩
      rw [hV1]
      obtain ⟨p8, hp8⟩ : ∃ p8, V0.heap.size = p8 := ⟨_, rfl⟩
      rw [hp8]
      have BX := below1 V0 (.cells #[.int .i64 0, .slice none 0 0] 29 (0, 0))
      rw [hV1] at BX
      have HP := Lib.hid (show Va1.heap[p8]? = some (.cells #[.int .i64 0, .slice none 0 0] 29 (0, 0)) from by rw [← hV1, ← hp8]; exact heap_alloc_new _ _)
      have HPz := Lib.hid (show w.heap.size ≤ p8 from by rw [← hp8]; exact HS0.out.size)
      replace HS0 := Lib.hid (HS0.out.trans (BX.mono HS0.out.size))
      clear BX hV1 hp8
      try dsimp only
      refine ⟨HS0.out, ?_⟩
      try simp only [Act.put, List.getElem_toArray, List.getElem_cons_succ, List.getElem_cons_zero, List.setIfInBounds_toArray, List.set_cons_zero, List.set_cons_succ]
      refine anyI_one 20 (by kernel_rfl) rfl ?_
      try simp only [List.getElem_toArray, List.getElem_cons_succ, List.getElem_cons_zero]
      refine opE_step ?_
      rw [if_pos (by rfl)]
      go_simp
      go_at_call 8
      refine (CO.out Va1 HS0.out).mono ?_
      rintro e Va2 ⟨s, l, B, c, rfl, hs, h64, hl6, ho, hb⟩
      have HO := Lib.hid ho
      have HOz := Lib.hid HS0.out.size
      have HPl := Lib.hid (show p8 < Va1.heap.size from (Array.getElem?_eq_some_iff.1 HP.out).1)
      replace HP := Lib.hid ((hb.block p8 (Array.getElem?_eq_some_iff.1 HP.out).1).trans HP.out)
      have H64 := Lib.hid h64
      replace HS0 := Lib.hid (HS0.out.trans (hb.mono HS0.out.size))
      clear ho hb h64
      try dsimp only
      refine ⟨HS0.out, ?_⟩
      try simp only [Act.put, List.getElem_toArray, List.getElem_cons_succ, List.getElem_cons_zero, List.setIfInBounds_toArray, List.set_cons_zero, List.set_cons_succ]
      refine anyI_tail (by kernel_rfl) ?_
      try simp only [List.drop_succ_cons, List.drop_zero]
      clear R
      go_wp2_with (refine wpList_store_blk rfl 29 _ _ (by rfl) p8 0 (.agg #[.int .i64 s, .slice B l.length c]) (by rfl) (by rfl) [.int .i64 0, .slice none 0 0] 29 HP.out [.int .i64 s, .slice B l.length c] rfl 2 rfl (by kernel_rfl) (Nat.le_refl 2) (fun u hu => by simp only [List.mem_cons, List.not_mem_nil, or_false] at hu; rcases hu with rfl | rfl <;> rfl) [.int .i64 s, .slice B l.length c] (by rfl) ?_; intro w9 h9 g9)
      refine NoPanic.normal ?_
      have hsz : p8 < Va2.heap.size := (Array.getElem?_eq_some_iff.1 HP.out).1
      exact HK.out _ _ _ _ _ _ _ _ _ _ _ _ _ _ _ _ _ _ _ _ _ p8 s l B c w9 hs H64.out hl6 ((HO.out.far g9 HPl.out HPl.out).le HOz.out HOz.out) h9 (HS0.out.grown g9 HS0.out.size (fun k e => by injection e with e; have := HPz.out; omega)) HPz.out (fun g e => by subst e; have := (HO.out.lt g rfl).1; have := HPl.out; omega)
  · try simp only [List.getElem_toArray, List.getElem_cons_succ, List.getElem_cons_zero]
    refine opE_step ?_
    rw [if_pos (by rfl)]
    go_simp
    obtain ⟨Va1, hV1⟩ : ∃ Va1, V0.alloc (.cells #[.int .i64 0, .slice none 0 0] 29 (0, 0)) = Va1 := ⟨_, rfl⟩
    rw [hV1]
    obtain ⟨p8, hp8⟩ : ∃ p8, V0.heap.size = p8 := ⟨_, rfl⟩
    rw [hp8]
    have BX := below1 V0 (.cells #[.int .i64 0, .slice none 0 0] 29 (0, 0))
    rw [hV1] at BX
    have HP := Lib.hid (show Va1.heap[p8]? = some (.cells #[.int .i64 0, .slice none 0 0] 29 (0, 0)) from by rw [← hV1, ← hp8]; exact heap_alloc_new _ _)
    have HPz := Lib.hid (show w.heap.size ≤ p8 from by rw [← hp8]; exact HS0.out.size)
    replace HS0 := Lib.hid (HS0.out.trans (BX.mono HS0.out.size))
    clear BX hV1 hp8
    try dsimp only
    refine ⟨HS0.out, ?_⟩
    try simp only [Act.put, List.getElem_toArray, List.getElem_cons_succ, List.getElem_cons_zero, List.setIfInBounds_toArray, List.set_cons_zero, List.set_cons_succ]
    refine anyI_one 5 (by kernel_rfl) rfl ?_
    try simp only [List.getElem_toArray, List.getElem_cons_succ, List.getElem_cons_zero]
    refine opE_step ?_
    rw [if_pos (by rfl)]
    go_simp
    go_at_call 9
    (with_reducible refine (W9.out _).mono ?_)
    rintro e wx ⟨rfl, hwx⟩
    obtain rfl : Va1 = wx := hwx.symm
    clear hwx
    try dsimp only
    refine ⟨HS0.out, ?_⟩
    try simp only [Act.put, List.getElem_toArray, List.getElem_cons_succ, List.getElem_cons_zero, List.setIfInBounds_toArray, List.set_cons_zero, List.set_cons_succ]
    refine anyI_one 20 (by kernel_rfl) rfl ?_
    try simp only [List.getElem_toArray, List.getElem_cons_succ, List.getElem_cons_zero]
    refine opE_step ?_
    rw [if_pos (by rfl)]
    go_simp
    go_at_call 8
    refine (CO.out Va1 HS0.out).mono ?_
    rintro e Va2 ⟨s, l, B, c, rfl, hs, h64, hl6, ho, hb⟩
    have HO := Lib.hid ho
    have HOz := Lib.hid HS0.out.size
    have HPl := Lib.hid (show p8 < Va1.heap.size from (Array.getElem?_eq_some_iff.1 HP.out).1)
    replace HP := Lib.hid ((hb.block p8 (Array.getElem?_eq_some_iff.1 HP.out).1).trans HP.out)
    have H64 := Lib.hid h64
    replace HS0 := Lib.hid (HS0.out.trans (hb.mono HS0.out.size))
    clear ho hb h64
    try dsimp only
    refine ⟨HS0.out, ?_⟩
    try simp only [Act.put, List.getElem_toArray, List.getElem_cons_succ, List.getElem_cons_zero, List.setIfInBounds_toArray, List.set_cons_zero, List.set_cons_succ]
    refine anyI_tail (by kernel_rfl) ?_
    try simp only [List.drop_succ_cons, List.drop_zero]
    clear R
    go_wp2_with (refine wpList_store_blk rfl 29 _ _ (by rfl) p8 0 (.agg #[.int .i64 s, .slice B l.length c]) (by rfl) (by rfl) [.int .i64 0, .slice none 0 0] 29 HP.out [.int .i64 s, .slice B l.length c] rfl 2 rfl (by kernel_rfl) (Nat.le_refl 2) (fun u hu => by simp only [List.mem_cons, List.not_mem_nil, or_false] at hu; rcases hu with rfl | rfl <;> rfl) [.int .i64 s, .slice B l.length c] (by rfl) ?_; intro w9 h9 g9)
    refine NoPanic.normal ?_
    have hsz : p8 < Va2.heap.size := (Array.getElem?_eq_some_iff.1 HP.out).1
    exact HK.out _ _ _ _ _ _ _ _ _ _ _ _ _ _ _ _ _ _ _ _ _ p8 s l B c w9 hs H64.out hl6 ((HO.out.far g9 HPl.out HPl.out).le HOz.out HOz.out) h9 (HS0.out.grown g9 HS0.out.size (fun k e => by injection e with e; have := HPz.out; omega)) HPz.out (fun g e => by subst e; have := (HO.out.lt g rfl).1; have := HPl.out; omega)
end Go.Proofs.YtkbhnbkjpnigkaaDoor
end
section
set_option linter.unusedVariables false
set_option linter.unusedSimpArgs false
namespace Go.Proofs.YtkbhnbkjpnigkaaDoor
open Go.RowKit

set_option maxRecDepth 100000 in
set_option maxHeartbeats 3200000 in
theorem lpCb {w0 : World} {p8 n c : Nat} {s : Int} {A : Option Addr} {j : Nat} {l : List It} {w : World} (u0 u1 u2 u3 u4 u5 u6 u7 u9 u10 u11 u12 u13 u14 u15 u16 u17 u18 u19 u20 u21 u22 u23 u24 u25 u26 u27 u28 u29 u30 u31 u32 u33 u34 u35 u36 u37 u38 u39 u40 u41 u42 u43 u44 u45 u46 u47 u48 u49 u50 u51 u52 u53 u54 u55 u56 u57 u58 u59 u60 u61 u62 u63 u64 u65 u66 u67 u68 u69 u70 u71 u72 u73 u74 u75 u76 u77 u78 u79 u83 u84 u85 u86 u87 u88 u89 u90 u91 u92 u93 u94 u95 u96 u97 u98 u99 ua0 ua1 ua2 ua3 ua4 ua5 ua6 ua7 ua8 ua9 ub0 ub1 ub2 ub3 ub4 ub5 ub6 ub7 ub8 ub9 uc0 uc1 uc2 uc3 uc4 uc5 uc6 uc7 uc8 uc9 ud0 ud1 ud2 ud3 ud4 ud5 ud6 ud7 ud8 ud9 ue0 ue1 ue2 ue3 ue4 ue5 ue6 ue7 ue8 ue9 uf0 uf1 uf2 uf3 uf4 uf5 uf6 uf7 uf8 uf9 ug0 ug1 ug2 ug3 ug4 ug5 ug6 ug7 ug8 ug9 uh0 uh1 uh2 uh3 uh4 uh5 uh6 uh7 uh8 uh9 ui0 ui1 ui2 ui3 ui4 ui5 ui6 ui7 ui8 ui9 uj0 uj1 uj2 uj3 uj4 uj5 uj6 uj7 uj8 uj9 uk0 uk1 uk2 uk3 uk4 uk5 uk6 uk7 uk8 uk9 ul0 ul1 ul2 ul3 ul4 ul5 ul6 ul7 ul8 ul9 um0 um1 um2 um3 um4 um5 um6 um7 um8 um9 un0 un1 un2 un3 un4 un5 un6 un7 un8 un9 uo0 uo1 uo2 uo3 uo4 uo5 uo6 uo7 uo8 uo9 up0 up1 up2 up3 up4 up5 up6 up7 up8 up9 uq0 uq1 uq2 uq3 uq4 uq5 uq6 uq7 uq8 uq9 ur0 ur1 ur2 ur3 ur4 ur5 ur6 ur7 ur8 ur9 us0 us1 us2 us3 us4 us5 us6 us7 us8 us9 ut0 ut1 ut2 ut3 ut4 ut5 ut6 ut7 ut8 ut9 uu0 uu1 uu2 uu3 uu4 uu5 uu6 uu7 uu8 uu9 uv0 uv1 uv2 uv3 uv4 uv5 uv6 uv7 uv8 uv9 uw0 uw1 uw2 uw3 : Value) (K : Act → World → Prop) (Q0 : Exit → Act → World → Prop) (hp : ∀ g, A = some ⟨g, 0, none⟩ → g ≠ p8) (hn : n ≤ 1000) (hI : (j ≤ n ∧ l.length = n ∧ Below w0.heap.size w0 w ∧ w.heap[p8]? = some (.cells (List.toArray [.int .i64 s, .slice A n c]) 29 (0, 0)) ∧ OwIt 43 w w0.heap.size w0.heap.size (.slice A n c) l ∧ Its64 l ∧ ∀ k, k < j → (itN l k).d < 4))
    (hK : ∀ (v9 v83 v84 v85 v86 v87 v88 v89 v90 v91 v92 v93 v94 : Value) (l2 : List It) (V : World), ((j + 1) ≤ n ∧ l2.length = n ∧ Below w0.heap.size w0 V ∧ V.heap[p8]? = some (.cells (List.toArray [.int .i64 s, .slice A n c]) 29 (0, 0)) ∧ OwIt 43 V w0.heap.size w0.heap.size (.slice A n c) l2 ∧ Its64 l2 ∧ ∀ k, k < (j + 1) → (itN l2 k).d < 4) → n - (j + 1) < n - j → K ⟨List.toArray (u0::u1::u2::u3::u4::u5::u6::u7::(.pointer (some ⟨p8, 0, none⟩))::v9::u10::u11::u12::u13::u14::u15::u16::u17::u18::u19::u20::u21::u22::u23::u24::u25::u26::u27::u28::u29::u30::u31::u32::u33::u34::u35::u36::u37::u38::u39::u40::u41::u42::u43::u44::u45::u46::u47::u48::u49::u50::u51::u52::u53::u54::u55::u56::u57::u58::u59::u60::u61::u62::u63::u64::u65::u66::u67::u68::u69::u70::u71::u72::u73::u74::u75::u76::u77::u78::u79::(.slice A n c)::(.int .i64 ((n : Nat) : Int))::(.int .i64 (((j + 1) : Nat) : Int))::v83::v84::v85::v86::v87::v88::v89::v90::v91::v92::v93::v94::u95::u96::u97::u98::u99::ua0::ua1::ua2::ua3::ua4::ua5::ua6::ua7::ua8::ua9::ub0::ub1::ub2::ub3::ub4::ub5::ub6::ub7::ub8::ub9::uc0::uc1::uc2::uc3::uc4::uc5::uc6::uc7::uc8::uc9::ud0::ud1::ud2::ud3::ud4::ud5::ud6::ud7::ud8::ud9::ue0::ue1::ue2::ue3::ue4::ue5::ue6::ue7::ue8::ue9::uf0::uf1::uf2::uf3::uf4::uf5::uf6::uf7::uf8::uf9::ug0::ug1::ug2::ug3::ug4::ug5::ug6::ug7::ug8::ug9::uh0::uh1::uh2::uh3::uh4::uh5::uh6::uh7::uh8::uh9::ui0::ui1::ui2::ui3::ui4::ui5::ui6::ui7::ui8::ui9::uj0::uj1::uj2::uj3::uj4::uj5::uj6::uj7::uj8::uj9::uk0::uk1::uk2::uk3::uk4::uk5::uk6::uk7::uk8::uk9::ul0::ul1::ul2::ul3::ul4::ul5::ul6::ul7::ul8::ul9::um0::um1::um2::um3::um4::um5::um6::um7::um8::um9::un0::un1::un2::un3::un4::un5::un6::un7::un8::un9::uo0::uo1::uo2::uo3::uo4::uo5::uo6::uo7::uo8::uo9::up0::up1::up2::up3::up4::up5::up6::up7::up8::up9::uq0::uq1::uq2::uq3::uq4::uq5::uq6::uq7::uq8::uq9::ur0::ur1::ur2::ur3::ur4::ur5::ur6::ur7::ur8::ur9::us0::us1::us2::us3::us4::us5::us6::us7::us8::us9::ut0::ut1::ut2::ut3::ut4::ut5::ut6::ut7::ut8::ut9::uu0::uu1::uu2::uu3::uu4::uu5::uu6::uu7::uu8::uu9::uv0::uv1::uv2::uv3::uv4::uv5::uv6::uv7::uv8::uv9::uw0::uw1::uw2::uw3::[]), []⟩ V)
    (hX : ∀ (v9 v83 v84 v85 v86 v87 v88 v89 v90 v91 v92 v93 v94 : Value), (j = n) → Q0 (.exit 2) ⟨List.toArray (u0::u1::u2::u3::u4::u5::u6::u7::(.pointer (some ⟨p8, 0, none⟩))::v9::u10::u11::u12::u13::u14::u15::u16::u17::u18::u19::u20::u21::u22::u23::u24::u25::u26::u27::u28::u29::u30::u31::u32::u33::u34::u35::u36::u37::u38::u39::u40::u41::u42::u43::u44::u45::u46::u47::u48::u49::u50::u51::u52::u53::u54::u55::u56::u57::u58::u59::u60::u61::u62::u63::u64::u65::u66::u67::u68::u69::u70::u71::u72::u73::u74::u75::u76::u77::u78::u79::(.slice A n c)::(.int .i64 ((n : Nat) : Int))::(.int .i64 ((j : Nat) : Int))::v83::v84::v85::v86::v87::v88::v89::v90::v91::v92::v93::v94::u95::u96::u97::u98::u99::ua0::ua1::ua2::ua3::ua4::ua5::ua6::ua7::ua8::ua9::ub0::ub1::ub2::ub3::ub4::ub5::ub6::ub7::ub8::ub9::uc0::uc1::uc2::uc3::uc4::uc5::uc6::uc7::uc8::uc9::ud0::ud1::ud2::ud3::ud4::ud5::ud6::ud7::ud8::ud9::ue0::ue1::ue2::ue3::ue4::ue5::ue6::ue7::ue8::ue9::uf0::uf1::uf2::uf3::uf4::uf5::uf6::uf7::uf8::uf9::ug0::ug1::ug2::ug3::ug4::ug5::ug6::ug7::ug8::ug9::uh0::uh1::uh2::uh3::uh4::uh5::uh6::uh7::uh8::uh9::ui0::ui1::ui2::ui3::ui4::ui5::ui6::ui7::ui8::ui9::uj0::uj1::uj2::uj3::uj4::uj5::uj6::uj7::uj8::uj9::uk0::uk1::uk2::uk3::uk4::uk5::uk6::uk7::uk8::uk9::ul0::ul1::ul2::ul3::ul4::ul5::ul6::ul7::ul8::ul9::um0::um1::um2::um3::um4::um5::um6::um7::um8::um9::un0::un1::un2::un3::un4::un5::un6::un7::un8::un9::uo0::uo1::uo2::uo3::uo4::uo5::uo6::uo7::uo8::uo9::up0::up1::up2::up3::up4::up5::up6::up7::up8::up9::uq0::uq1::uq2::uq3::uq4::uq5::uq6::uq7::uq8::uq9::ur0::ur1::ur2::ur3::ur4::ur5::ur6::ur7::ur8::ur9::us0::us1::us2::us3::us4::us5::us6::us7::us8::us9::ut0::ut1::ut2::ut3::ut4::ut5::ut6::ut7::ut8::ut9::uu0::uu1::uu2::uu3::uu4::uu5::uu6::uu7::uu8::uu9::uv0::uv1::uv2::uv3::uv4::uv5::uv6::uv7::uv8::uv9::uw0::uw1::uw2::uw3::[]), []⟩ w) :
    Code.wp Tryd.prog (sub [1, 1, 1, 1, 0, 1, 0, 0, 1, 0, 0, 1, 1, 0, 1, 0, 0] codeLP) (Exit.then K Q0) ⟨List.toArray (u0::u1::u2::u3::u4::u5::u6::u7::(.pointer (some ⟨p8, 0, none⟩))::u9::u10::u11::u12::u13::u14::u15::u16::u17::u18::u19::u20::u21::u22::u23::u24::u25::u26::u27::u28::u29::u30::u31::u32::u33::u34::u35::u36::u37::u38::u39::u40::u41::u42::u43::u44::u45::u46::u47::u48::u49::u50::u51::u52::u53::u54::u55::u56::u57::u58::u59::u60::u61::u62::u63::u64::u65::u66::u67::u68::u69::u70::u71::u72::u73::u74::u75::u76::u77::u78::u79::(.slice A n c)::(.int .i64 ((n : Nat) : Int))::(.int .i64 ((j : Nat) : Int))::u83::u84::u85::u86::u87::u88::u89::u90::u91::u92::u93::u94::u95::u96::u97::u98::u99::ua0::ua1::ua2::ua3::ua4::ua5::ua6::ua7::ua8::ua9::ub0::ub1::ub2::ub3::ub4::ub5::ub6::ub7::ub8::ub9::uc0::uc1::uc2::uc3::uc4::uc5::uc6::uc7::uc8::uc9::ud0::ud1::ud2::ud3::ud4::ud5::ud6::ud7::ud8::ud9::ue0::ue1::ue2::ue3::ue4::ue5::ue6::ue7::ue8::ue9::uf0::uf1::uf2::uf3::uf4::uf5::uf6::uf7::uf8::uf9::ug0::ug1::ug2::ug3::ug4::ug5::ug6::ug7::ug8::ug9::uh0::uh1::uh2::uh3::uh4::uh5::uh6::uh7::uh8::uh9::ui0::ui1::ui2::ui3::ui4::ui5::ui6::ui7::ui8::ui9::uj0::uj1::uj2::uj3::uj4::uj5::uj6::uj7::uj8::uj9::uk0::uk1::uk2::uk3::uk4::uk5::uk6::uk7::uk8::uk9::ul0::ul1::ul2::ul3::ul4::ul5::ul6::ul7::ul8::ul9::um0::um1::um2::um3::um4::um5::um6::um7::um8::um9::un0::un1::un2::un3::un4::un5::un6::un7::un8::un9::uo0::uo1::uo2::uo3::uo4::uo5::uo6::uo7::uo8::uo9::up0::up1::up2::up3::up4::up5::up6::up7::up8::up9::uq0::uq1::uq2::uq3::uq4::uq5::uq6::uq7::uq8::uq9::ur0::ur1::ur2::ur3::ur4::ur5::ur6::ur7::ur8::ur9::us0::us1::us2::us3::us4::us5::us6::us7::us8::us9::ut0::ut1::ut2::ut3::ut4::ut5::ut6::ut7::ut8::ut9::uu0::uu1::uu2::uu3::uu4::uu5::uu6::uu7::uu8::uu9::uv0::uv1::uv2::uv3::uv4::uv5::uv6::uv7::uv8::uv9::uw0::uw1::uw2::uw3::[]), []⟩ w := by
  have HK := Lib.hid hK
  have HX := Lib.hid hX
  clear hK hX
  conv => arg 2; whnf
  obtain ⟨hj, hl, hB, hbx, hO, h64, hd⟩ := hI
  by_cases hlt : j < n
  · have HB := Lib.hid hB
    have HO := Lib.hid hO
    have HBX := Lib.hid hbx
    have Hp := Lib.hid hp
    obtain ⟨A5, c5, e5, hc5, hrd⟩ := hO.rd
    injection e5 with e5 e6 e7
    rw [← e5] at hrd
    clear e5 e6 e7
    obtain ⟨g, rfl, hg, _⟩ := hrd.2 (by omega)
    obtain ⟨D, cd, hrg, _, _⟩ := OwIt.cell hO hl j hlt
    obtain ⟨xs, hx1, _⟩ := hO
    rw [hl] at hx1
    have f0 := hx1.frozenAt (j * 3)
    have hgl := (HO.out.lt g rfl).1
    have d64 := (h64 j (by omega)).d
    have HS := Lib.hid (OwIt.setD HO.out hl j hlt ((itN l j).d.tmod 4))
    have hm1 : -4 < (itN l j).d.tmod 4 := Int.lt_tmod_of_pos _ (by omega)
    have hm2 : (itN l j).d.tmod 4 < 4 := Int.tmod_lt_of_pos _ (by omega)
    have HI := Lib.hid (show Its64 (l.set j ⟨(itN l j).d.tmod 4, (itN l j).a, (itN l j).b⟩) from its64_set h64 j _ ⟨by dsimp only; omega, (h64 j (by omega)).a⟩)
    have HDn := Lib.hid (show ∀ k, k < j + 1 → (itN (l.set j ⟨(itN l j).d.tmod 4, (itN l j).a, (itN l j).b⟩) k).d < 4 from fun k hk => by
      by_cases e : k = j
      · subst e
        rw [show itN (l.set k ⟨(itN l k).d.tmod 4, (itN l k).a, (itN l k).b⟩) k = ⟨(itN l k).d.tmod 4, (itN l k).a, (itN l k).b⟩ from by simp [itN, List.getD_eq_getElem?_getD, show k < l.length by omega]]
        exact hm2
      · rw [show itN (l.set j ⟨(itN l j).d.tmod 4, (itN l j).a, (itN l j).b⟩) k = itN l k from by simp [itN, List.getD_eq_getElem?_getD, List.getElem?_set, Ne.symm e]]
        exact hd k (by omega))
    generalize l.set j ⟨(itN l j).d.tmod 4, (itN l j).a, (itN l j).b⟩ = l2 at HS HI HDn
    have Hl2 : Hid (l2.length = n) := by
      obtain ⟨A', c', e', _, _⟩ := HS.out.1.rd
      injection e' with _ e' _
      exact Lib.hid e'.symm
    have c0 : w.cell? ⟨g, j * 3, none⟩ = some (.int .i64 (itN l j).d) := hrg 0 _ rfl
    have c1 : w.cell? ⟨p8, 1, none⟩ = some (.slice (some ⟨g, 0, none⟩) n c) := cell_of_row _ _ 1 _ _ _ hbx
    obtain ⟨z, hz⟩ : ∃ z, (itN l j).d.tmod 4 = z := ⟨_, rfl⟩
    rw [hz] at HS hm1 hm2
    generalize (itN l j).d = d0 at c0 d64 hz
    have kz : IntKind.i64.wrap z = z := by rw [IntKind.wrap_i64]; omega
    have k0 : (0 : Int) ≤ (j : Int) := by omega
    have k1 : (j : Int) < (n : Int) := by omega
    clear hB hbx h64 hd hl HX hrd hrg hx1 hp hc5 d64
    go_wp2_with fail
    exact HK.out _ _ _ _ _ _ _ _ _ _ _ _ _ l2 _ ⟨by omega, Hl2.out, HB.out.grown HS.out.2 HB.out.size (fun k e => by injection e with e; omega), (HS.out.2.block p8 (Array.getElem?_eq_some_iff.1 HBX.out).1 (fun e => Hp.out g rfl (by injection e with e; exact e.symm))).trans HBX.out, HS.out.1, HI.out, HDn.out⟩ (by omega)
  · have i1 : ¬ (j : Int) < (n : Int) := by omega
    have hde : j = n := by omega
    have Hde := Lib.hid hde
    clear HK hde hB hbx hO h64 hd hl
    go_wp2_with fail
    exact HX.out _ _ _ _ _ _ _ _ _ _ _ _ _ Hde.out
set_option maxRecDepth 100000 in
set_option maxHeartbeats 3200000 in
theorem lpC {w0 : World} {p8 n c : Nat} {s : Int} {A : Option Addr} {l0 : List It} {w : World} (u0 u1 u2 u3 u4 u5 u6 u7 u9 u10 u11 u12 u13 u14 u15 u16 u17 u18 u19 u20 u21 u22 u23 u24 u25 u26 u27 u28 u29 u30 u31 u32 u33 u34 u35 u36 u37 u38 u39 u40 u41 u42 u43 u44 u45 u46 u47 u48 u49 u50 u51 u52 u53 u54 u55 u56 u57 u58 u59 u60 u61 u62 u63 u64 u65 u66 u67 u68 u69 u70 u71 u72 u73 u74 u75 u76 u77 u78 u79 u83 u84 u85 u86 u87 u88 u89 u90 u91 u92 u93 u94 u95 u96 u97 u98 u99 ua0 ua1 ua2 ua3 ua4 ua5 ua6 ua7 ua8 ua9 ub0 ub1 ub2 ub3 ub4 ub5 ub6 ub7 ub8 ub9 uc0 uc1 uc2 uc3 uc4 uc5 uc6 uc7 uc8 uc9 ud0 ud1 ud2 ud3 ud4 ud5 ud6 ud7 ud8 ud9 ue0 ue1 ue2 ue3 ue4 ue5 ue6 ue7 ue8 ue9 uf0 uf1 uf2 uf3 uf4 uf5 uf6 uf7 uf8 uf9 ug0 ug1 ug2 ug3 ug4 ug5 ug6 ug7 ug8 ug9 uh0 uh1 uh2 uh3 uh4 uh5 uh6 uh7 uh8 uh9 ui0 ui1 ui2 ui3 ui4 ui5 ui6 ui7 ui8 ui9 uj0 uj1 uj2 uj3 uj4 uj5 uj6 uj7 uj8 uj9 uk0 uk1 uk2 uk3 uk4 uk5 uk6 uk7 uk8 uk9 ul0 ul1 ul2 ul3 ul4 ul5 ul6 ul7 ul8 ul9 um0 um1 um2 um3 um4 um5 um6 um7 um8 um9 un0 un1 un2 un3 un4 un5 un6 un7 un8 un9 uo0 uo1 uo2 uo3 uo4 uo5 uo6 uo7 uo8 uo9 up0 up1 up2 up3 up4 up5 up6 up7 up8 up9 uq0 uq1 uq2 uq3 uq4 uq5 uq6 uq7 uq8 uq9 ur0 ur1 ur2 ur3 ur4 ur5 ur6 ur7 ur8 ur9 us0 us1 us2 us3 us4 us5 us6 us7 us8 us9 ut0 ut1 ut2 ut3 ut4 ut5 ut6 ut7 ut8 ut9 uu0 uu1 uu2 uu3 uu4 uu5 uu6 uu7 uu8 uu9 uv0 uv1 uv2 uv3 uv4 uv5 uv6 uv7 uv8 uv9 uw0 uw1 uw2 uw3 : Value) (Q : Exit → Act → World → Prop) (hp : ∀ g, A = some ⟨g, 0, none⟩ → g ≠ p8) (hn : n ≤ 1000) (hI : (0 ≤ n ∧ l0.length = n ∧ Below w0.heap.size w0 w ∧ w.heap[p8]? = some (.cells (List.toArray [.int .i64 s, .slice A n c]) 29 (0, 0)) ∧ OwIt 43 w w0.heap.size w0.heap.size (.slice A n c) l0 ∧ Its64 l0 ∧ ∀ k, k < 0 → (itN l0 k).d < 4))
    (hX : ∀ (v9 v83 v84 v85 v86 v87 v88 v89 v90 v91 v92 v93 v94 : Value) (j : Nat) (l : List It) (V : World), (j ≤ n ∧ l.length = n ∧ Below w0.heap.size w0 V ∧ V.heap[p8]? = some (.cells (List.toArray [.int .i64 s, .slice A n c]) 29 (0, 0)) ∧ OwIt 43 V w0.heap.size w0.heap.size (.slice A n c) l ∧ Its64 l ∧ ∀ k, k < j → (itN l k).d < 4) → (j = n) → Q (.exit 2) ⟨List.toArray (u0::u1::u2::u3::u4::u5::u6::u7::(.pointer (some ⟨p8, 0, none⟩))::v9::u10::u11::u12::u13::u14::u15::u16::u17::u18::u19::u20::u21::u22::u23::u24::u25::u26::u27::u28::u29::u30::u31::u32::u33::u34::u35::u36::u37::u38::u39::u40::u41::u42::u43::u44::u45::u46::u47::u48::u49::u50::u51::u52::u53::u54::u55::u56::u57::u58::u59::u60::u61::u62::u63::u64::u65::u66::u67::u68::u69::u70::u71::u72::u73::u74::u75::u76::u77::u78::u79::(.slice A n c)::(.int .i64 ((n : Nat) : Int))::(.int .i64 ((j : Nat) : Int))::v83::v84::v85::v86::v87::v88::v89::v90::v91::v92::v93::v94::u95::u96::u97::u98::u99::ua0::ua1::ua2::ua3::ua4::ua5::ua6::ua7::ua8::ua9::ub0::ub1::ub2::ub3::ub4::ub5::ub6::ub7::ub8::ub9::uc0::uc1::uc2::uc3::uc4::uc5::uc6::uc7::uc8::uc9::ud0::ud1::ud2::ud3::ud4::ud5::ud6::ud7::ud8::ud9::ue0::ue1::ue2::ue3::ue4::ue5::ue6::ue7::ue8::ue9::uf0::uf1::uf2::uf3::uf4::uf5::uf6::uf7::uf8::uf9::ug0::ug1::ug2::ug3::ug4::ug5::ug6::ug7::ug8::ug9::uh0::uh1::uh2::uh3::uh4::uh5::uh6::uh7::uh8::uh9::ui0::ui1::ui2::ui3::ui4::ui5::ui6::ui7::ui8::ui9::uj0::uj1::uj2::uj3::uj4::uj5::uj6::uj7::uj8::uj9::uk0::uk1::uk2::uk3::uk4::uk5::uk6::uk7::uk8::uk9::ul0::ul1::ul2::ul3::ul4::ul5::ul6::ul7::ul8::ul9::um0::um1::um2::um3::um4::um5::um6::um7::um8::um9::un0::un1::un2::un3::un4::un5::un6::un7::un8::un9::uo0::uo1::uo2::uo3::uo4::uo5::uo6::uo7::uo8::uo9::up0::up1::up2::up3::up4::up5::up6::up7::up8::up9::uq0::uq1::uq2::uq3::uq4::uq5::uq6::uq7::uq8::uq9::ur0::ur1::ur2::ur3::ur4::ur5::ur6::ur7::ur8::ur9::us0::us1::us2::us3::us4::us5::us6::us7::us8::us9::ut0::ut1::ut2::ut3::ut4::ut5::ut6::ut7::ut8::ut9::uu0::uu1::uu2::uu3::uu4::uu5::uu6::uu7::uu8::uu9::uv0::uv1::uv2::uv3::uv4::uv5::uv6::uv7::uv8::uv9::uw0::uw1::uw2::uw3::[]), []⟩ V) :
    Code.wp Tryd.prog (.loop (sub [1, 1, 1, 1, 0, 1, 0, 0, 1, 0, 0, 1, 1, 0, 1, 0, 0] codeLP)) Q ⟨List.toArray (u0::u1::u2::u3::u4::u5::u6::u7::(.pointer (some ⟨p8, 0, none⟩))::u9::u10::u11::u12::u13::u14::u15::u16::u17::u18::u19::u20::u21::u22::u23::u24::u25::u26::u27::u28::u29::u30::u31::u32::u33::u34::u35::u36::u37::u38::u39::u40::u41::u42::u43::u44::u45::u46::u47::u48::u49::u50::u51::u52::u53::u54::u55::u56::u57::u58::u59::u60::u61::u62::u63::u64::u65::u66::u67::u68::u69::u70::u71::u72::u73::u74::u75::u76::u77::u78::u79::(.slice A n c)::(.int .i64 ((n : Nat) : Int))::(.int .i64 ((0 : Nat) : Int))::u83::u84::u85::u86::u87::u88::u89::u90::u91::u92::u93::u94::u95::u96::u97::u98::u99::ua0::ua1::ua2::ua3::ua4::ua5::ua6::ua7::ua8::ua9::ub0::ub1::ub2::ub3::ub4::ub5::ub6::ub7::ub8::ub9::uc0::uc1::uc2::uc3::uc4::uc5::uc6::uc7::uc8::uc9::ud0::ud1::ud2::ud3::ud4::ud5::ud6::ud7::ud8::ud9::ue0::ue1::ue2::ue3::ue4::ue5::ue6::ue7::ue8::ue9::uf0::uf1::uf2::uf3::uf4::uf5::uf6::uf7::uf8::uf9::ug0::ug1::ug2::ug3::ug4::ug5::ug6::ug7::ug8::ug9::uh0::uh1::uh2::uh3::uh4::uh5::uh6::uh7::uh8::uh9::ui0::ui1::ui2::ui3::ui4::ui5::ui6::ui7::ui8::ui9::uj0::uj1::uj2::uj3::uj4::uj5::uj6::uj7::uj8::uj9::uk0::uk1::uk2::uk3::uk4::uk5::uk6::uk7::uk8::uk9::ul0::ul1::ul2::ul3::ul4::ul5::ul6::ul7::ul8::ul9::um0::um1::um2::um3::um4::um5::um6::um7::um8::um9::un0::un1::un2::un3::un4::un5::un6::un7::un8::un9::uo0::uo1::uo2::uo3::uo4::uo5::uo6::uo7::uo8::uo9::up0::up1::up2::up3::up4::up5::up6::up7::up8::up9::uq0::uq1::uq2::uq3::uq4::uq5::uq6::uq7::uq8::uq9::ur0::ur1::ur2::ur3::ur4::ur5::ur6::ur7::ur8::ur9::us0::us1::us2::us3::us4::us5::us6::us7::us8::us9::ut0::ut1::ut2::ut3::ut4::ut5::ut6::ut7::ut8::ut9::uu0::uu1::uu2::uu3::uu4::uu5::uu6::uu7::uu8::uu9::uv0::uv1::uv2::uv3::uv4::uv5::uv6::uv7::uv8::uv9::uw0::uw1::uw2::uw3::[]), []⟩ w := by
  refine wp_loop_ghost (fun gk a V => ∀ C : Prop, (∀ (u9 u83 u84 u85 u86 u87 u88 u89 u90 u91 u92 u93 u94 : Value) (j : Nat) (l : List It), gk = n - j → (j ≤ n ∧ l.length = n ∧ Below w0.heap.size w0 V ∧ V.heap[p8]? = some (.cells (List.toArray [.int .i64 s, .slice A n c]) 29 (0, 0)) ∧ OwIt 43 V w0.heap.size w0.heap.size (.slice A n c) l ∧ Its64 l ∧ ∀ k, k < j → (itN l k).d < 4) → a = ⟨List.toArray (u0::u1::u2::u3::u4::u5::u6::u7::(.pointer (some ⟨p8, 0, none⟩))::u9::u10::u11::u12::u13::u14::u15::u16::u17::u18::u19::u20::u21::u22::u23::u24::u25::u26::u27::u28::u29::u30::u31::u32::u33::u34::u35::u36::u37::u38::u39::u40::u41::u42::u43::u44::u45::u46::u47::u48::u49::u50::u51::u52::u53::u54::u55::u56::u57::u58::u59::u60::u61::u62::u63::u64::u65::u66::u67::u68::u69::u70::u71::u72::u73::u74::u75::u76::u77::u78::u79::(.slice A n c)::(.int .i64 ((n : Nat) : Int))::(.int .i64 ((j : Nat) : Int))::u83::u84::u85::u86::u87::u88::u89::u90::u91::u92::u93::u94::u95::u96::u97::u98::u99::ua0::ua1::ua2::ua3::ua4::ua5::ua6::ua7::ua8::ua9::ub0::ub1::ub2::ub3::ub4::ub5::ub6::ub7::ub8::ub9::uc0::uc1::uc2::uc3::uc4::uc5::uc6::uc7::uc8::uc9::ud0::ud1::ud2::ud3::ud4::ud5::ud6::ud7::ud8::ud9::ue0::ue1::ue2::ue3::ue4::ue5::ue6::ue7::ue8::ue9::uf0::uf1::uf2::uf3::uf4::uf5::uf6::uf7::uf8::uf9::ug0::ug1::ug2::ug3::ug4::ug5::ug6::ug7::ug8::ug9::uh0::uh1::uh2::uh3::uh4::uh5::uh6::uh7::uh8::uh9::ui0::ui1::ui2::ui3::ui4::ui5::ui6::ui7::ui8::ui9::uj0::uj1::uj2::uj3::uj4::uj5::uj6::uj7::uj8::uj9::uk0::uk1::uk2::uk3::uk4::uk5::uk6::uk7::uk8::uk9::ul0::ul1::ul2::ul3::ul4::ul5::ul6::ul7::ul8::ul9::um0::um1::um2::um3::um4::um5::um6::um7::um8::um9::un0::un1::un2::un3::un4::un5::un6::un7::un8::un9::uo0::uo1::uo2::uo3::uo4::uo5::uo6::uo7::uo8::uo9::up0::up1::up2::up3::up4::up5::up6::up7::up8::up9::uq0::uq1::uq2::uq3::uq4::uq5::uq6::uq7::uq8::uq9::ur0::ur1::ur2::ur3::ur4::ur5::ur6::ur7::ur8::ur9::us0::us1::us2::us3::us4::us5::us6::us7::us8::us9::ut0::ut1::ut2::ut3::ut4::ut5::ut6::ut7::ut8::ut9::uu0::uu1::uu2::uu3::uu4::uu5::uu6::uu7::uu8::uu9::uv0::uv1::uv2::uv3::uv4::uv5::uv6::uv7::uv8::uv9::uw0::uw1::uw2::uw3::[]), []⟩ → C) → C) (n - 0) ?_ ?_
  · intro C hC
    exact hC _ _ _ _ _ _ _ _ _ _ _ _ _ (0) (l0) rfl hI rfl
  · intro gk a V hI'
    refine hI' _ ?_
    intro u9 u83 u84 u85 u86 u87 u88 u89 u90 u91 u92 u93 u94 j l hk hinv ha
    subst ha
    subst hk
    refine lpCb _ _ _ _ _ _ _ _ _ _ _ _ _ _ _ _ _ _ _ _ _ _ _ _ _ _ _ _ _ _ _ _ _ _ _ _ _ _ _ _ _ _ _ _ _ _ _ _ _ _ _ _ _ _ _ _ _ _ _ _ _ _ _ _ _ _ _ _ _ _ _ _ _ _ _ _ _ _ _ _ _ _ _ _ _ _ _ _ _ _ _ _ _ _ _ _ _ _ _ _ _ _ _ _ _ _ _ _ _ _ _ _ _ _ _ _ _ _ _ _ _ _ _ _ _ _ _ _ _ _ _ _ _ _ _ _ _ _ _ _ _ _ _ _ _ _ _ _ _ _ _ _ _ _ _ _ _ _ _ _ _ _ _ _ _ _ _ _ _ _ _ _ _ _ _ _ _ _ _ _ _ _ _ _ _ _ _ _ _ _ _ _ _ _ _ _ _ _ _ _ _ _ _ _ _ _ _ _ _ _ _ _ _ _ _ _ _ _ _ _ _ _ _ _ _ _ _ _ _ _ _ _ _ _ _ _ _ _ _ _ _ _ _ _ _ _ _ _ _ _ _ _ _ _ _ _ _ _ _ _ _ _ _ _ _ _ _ _ _ _ _ _ _ _ _ _ _ _ _ _ _ _ _ _ _ _ _ _ _ _ _ _ _ _ _ _ _ _ _ _ _ _ _ _ _ _ _ _ _ _ _ _ _ _ _ _ _ _ _ _ _ _ hp hn hinv (fun v9 v83 v84 v85 v86 v87 v88 v89 v90 v91 v92 v93 v94 l2 V2 h2 hm => ?_) (fun v9 v83 v84 v85 v86 v87 v88 v89 v90 v91 v92 v93 v94 hx => hX v9 v83 v84 v85 v86 v87 v88 v89 v90 v91 v92 v93 v94 j l V hinv hx)
    refine ⟨_, hm, fun C hC => ?_⟩
    exact hC v9 v83 v84 v85 v86 v87 v88 v89 v90 v91 v92 v93 v94 ((j + 1)) (l2) rfl h2 rfl
set_option maxRecDepth 100000 in
set_option maxHeartbeats 3200000 in
theorem lpD {p8 c : Nat} {s : Int} {A : Option Addr} {l : List It} {w : World} (u0 u1 u2 u3 u4 u5 u6 u7 u9 u10 u11 u12 u13 u14 u15 u16 u17 u18 u19 u20 u21 u22 u23 u24 u25 u26 u27 u28 u29 u30 u31 u32 u33 u34 u35 u36 u37 u38 u39 u40 u41 u42 u43 u44 u45 u46 u47 u48 u49 u50 u51 u52 u53 u54 u55 u56 u57 u58 u59 u60 u61 u62 u63 u64 u65 u66 u67 u68 u69 u70 u71 u72 u73 u74 u75 u76 u77 u78 u79 u80 u81 u82 u83 u84 u85 u86 u87 u88 u89 u90 u91 u92 u93 u94 u95 u96 u97 u98 u99 ua0 ua1 ua2 ua3 ua4 ua5 ua6 ua7 ua8 ua9 ub0 ub1 ub2 ub3 ub4 ub5 ub6 ub7 ub8 ub9 uc0 uc1 uc2 uc3 uc4 uc5 uc6 uc7 uc8 uc9 ud0 ud1 ud2 ud3 ud4 ud5 ud6 ud7 ud8 ud9 ue0 ue1 ue2 ue3 ue4 ue5 ue6 ue7 ue8 ue9 uf0 uf1 uf2 uf3 uf4 uf5 uf6 uf7 uf8 uf9 ug0 ug1 ug2 ug3 ug4 ug5 ug6 ug7 ug8 ug9 uh0 uh1 uh2 uh3 uh4 uh5 uh6 uh7 uh8 uh9 ui0 ui1 ui2 ui3 ui4 ui5 ui6 ui7 ui8 ui9 uj0 uj1 uj2 uj3 uj4 uj5 uj6 uj7 uj8 uj9 uk0 uk1 uk2 uk3 uk4 uk5 uk6 uk7 uk8 uk9 ul0 ul1 ul2 ul3 ul4 ul5 ul6 ul7 ul8 ul9 um0 um1 um2 um3 um4 um5 um6 um7 um8 um9 un0 un1 un2 un3 un4 un5 un6 un7 un8 un9 uo0 uo1 uo2 uo3 uo4 uo5 uo6 uo7 uo8 uo9 up0 up1 up2 up3 up4 up5 up6 up7 up8 up9 uq0 uq1 uq2 uq3 uq4 uq5 uq6 uq7 uq8 uq9 ur0 ur1 ur2 ur3 ur4 ur5 ur6 ur7 ur8 ur9 us0 us1 us2 us3 us4 us5 us6 us7 us8 us9 ut0 ut1 ut2 ut3 ut4 ut5 ut6 ut7 ut8 ut9 uu0 uu1 uu2 uu3 uu4 uu5 uu6 uu7 uu8 uu9 uv0 uv1 uv2 uv3 uv4 uv5 uv6 uv7 uv8 uv9 uw0 uw1 uw2 uw3 : Value) (K : Act → World → Prop) (Q0 : Exit → Act → World → Prop) (hc : w.cell? ⟨p8, 0, none⟩ = some (.int .i64 s) ∧ w.cell? ⟨p8, 1, none⟩ = some (.slice A l.length c)) (hn6 : l.length ≤ 1000) (hs : (-9223372036854775808 ≤ s ∧ s ≤ 9223372036854775807)) (hr : RdIc w w.heap.size A l) 
    (hK : ∀ (v95 v96 v97 v98 v99 va0 : Value) (V : World), Below w.heap.size w V → K ⟨List.toArray (u0::u1::u2::u3::u4::u5::u6::u7::(.pointer (some ⟨p8, 0, none⟩))::u9::(.bool (recOk s l))::u11::u12::u13::u14::u15::u16::u17::u18::u19::u20::u21::u22::u23::u24::u25::u26::u27::u28::u29::u30::u31::u32::u33::u34::u35::u36::u37::u38::u39::u40::u41::u42::u43::u44::u45::u46::u47::u48::u49::u50::u51::u52::u53::u54::u55::u56::u57::u58::u59::u60::u61::u62::u63::u64::u65::u66::u67::u68::u69::u70::u71::u72::u73::u74::u75::u76::u77::u78::u79::u80::u81::u82::u83::u84::u85::u86::u87::u88::u89::u90::u91::u92::u93::u94::v95::v96::v97::v98::v99::va0::ua1::ua2::ua3::ua4::ua5::ua6::ua7::ua8::ua9::ub0::ub1::ub2::ub3::ub4::ub5::ub6::ub7::ub8::ub9::uc0::uc1::uc2::uc3::uc4::uc5::uc6::uc7::uc8::uc9::ud0::ud1::ud2::ud3::ud4::ud5::ud6::ud7::ud8::ud9::ue0::ue1::ue2::ue3::ue4::ue5::ue6::ue7::ue8::ue9::uf0::uf1::uf2::uf3::uf4::uf5::uf6::uf7::uf8::uf9::ug0::ug1::ug2::ug3::ug4::ug5::ug6::ug7::ug8::ug9::uh0::uh1::uh2::uh3::uh4::uh5::uh6::uh7::uh8::uh9::ui0::ui1::ui2::ui3::ui4::ui5::ui6::ui7::ui8::ui9::uj0::uj1::uj2::uj3::uj4::uj5::uj6::uj7::uj8::uj9::uk0::uk1::uk2::uk3::uk4::uk5::uk6::uk7::uk8::uk9::ul0::ul1::ul2::ul3::ul4::ul5::ul6::ul7::ul8::ul9::um0::um1::um2::um3::um4::um5::um6::um7::um8::um9::un0::un1::un2::un3::un4::un5::un6::un7::un8::un9::uo0::uo1::uo2::uo3::uo4::uo5::uo6::uo7::uo8::uo9::up0::up1::up2::up3::up4::up5::up6::up7::up8::up9::uq0::uq1::uq2::uq3::uq4::uq5::uq6::uq7::uq8::uq9::ur0::ur1::ur2::ur3::ur4::ur5::ur6::ur7::ur8::ur9::us0::us1::us2::us3::us4::us5::us6::us7::us8::us9::ut0::ut1::ut2::ut3::ut4::ut5::ut6::ut7::ut8::ut9::uu0::uu1::uu2::uu3::uu4::uu5::uu6::uu7::uu8::uu9::uv0::uv1::uv2::uv3::uv4::uv5::uv6::uv7::uv8::uv9::uw0::uw1::uw2::uw3::[]), []⟩ V) :
    Code.wp Tryd.prog (sub [1, 1, 1, 1, 0, 1, 0, 0, 1, 0, 0, 1, 1, 1, 0] codeLP) (Exit.then K Q0) ⟨List.toArray (u0::u1::u2::u3::u4::u5::u6::u7::(.pointer (some ⟨p8, 0, none⟩))::u9::u10::u11::u12::u13::u14::u15::u16::u17::u18::u19::u20::u21::u22::u23::u24::u25::u26::u27::u28::u29::u30::u31::u32::u33::u34::u35::u36::u37::u38::u39::u40::u41::u42::u43::u44::u45::u46::u47::u48::u49::u50::u51::u52::u53::u54::u55::u56::u57::u58::u59::u60::u61::u62::u63::u64::u65::u66::u67::u68::u69::u70::u71::u72::u73::u74::u75::u76::u77::u78::u79::u80::u81::u82::u83::u84::u85::u86::u87::u88::u89::u90::u91::u92::u93::u94::u95::u96::u97::u98::u99::ua0::ua1::ua2::ua3::ua4::ua5::ua6::ua7::ua8::ua9::ub0::ub1::ub2::ub3::ub4::ub5::ub6::ub7::ub8::ub9::uc0::uc1::uc2::uc3::uc4::uc5::uc6::uc7::uc8::uc9::ud0::ud1::ud2::ud3::ud4::ud5::ud6::ud7::ud8::ud9::ue0::ue1::ue2::ue3::ue4::ue5::ue6::ue7::ue8::ue9::uf0::uf1::uf2::uf3::uf4::uf5::uf6::uf7::uf8::uf9::ug0::ug1::ug2::ug3::ug4::ug5::ug6::ug7::ug8::ug9::uh0::uh1::uh2::uh3::uh4::uh5::uh6::uh7::uh8::uh9::ui0::ui1::ui2::ui3::ui4::ui5::ui6::ui7::ui8::ui9::uj0::uj1::uj2::uj3::uj4::uj5::uj6::uj7::uj8::uj9::uk0::uk1::uk2::uk3::uk4::uk5::uk6::uk7::uk8::uk9::ul0::ul1::ul2::ul3::ul4::ul5::ul6::ul7::ul8::ul9::um0::um1::um2::um3::um4::um5::um6::um7::um8::um9::un0::un1::un2::un3::un4::un5::un6::un7::un8::un9::uo0::uo1::uo2::uo3::uo4::uo5::uo6::uo7::uo8::uo9::up0::up1::up2::up3::up4::up5::up6::up7::up8::up9::uq0::uq1::uq2::uq3::uq4::uq5::uq6::uq7::uq8::uq9::ur0::ur1::ur2::ur3::ur4::ur5::ur6::ur7::ur8::ur9::us0::us1::us2::us3::us4::us5::us6::us7::us8::us9::ut0::ut1::ut2::ut3::ut4::ut5::ut6::ut7::ut8::ut9::uu0::uu1::uu2::uu3::uu4::uu5::uu6::uu7::uu8::uu9::uv0::uv1::uv2::uv3::uv4::uv5::uv6::uv7::uv8::uv9::uw0::uw1::uw2::uw3::[]), []⟩ w := by
  have HK := Lib.hid hK
  clear hK
  conv => arg 2; whnf
  have HC := Lib.hid (fun V (hV : Below w.heap.size w V) => And.intro ((hV.cell (p := ⟨p8, 0, none⟩) (World.block_lt_of_cell? _ _ hc.1)).trans hc.1) ((hV.cell (p := ⟨p8, 1, none⟩) (World.block_lt_of_cell? _ _ hc.2)).trans hc.2))
  have CR := Lib.hid (fun V (hV : Below w.heap.size w V) => refRecs_any A l.length c l V rfl (by omega) (hr.later hV))
  clear hc hr
  refine wp_region_noPanic (region_ord 7 [] (fun V => Below w.heap.size w V) (by kernel_rfl) (by kernel_rfl) (fun _ _ _ _ _ h => h) fun R => ?_)
  change anyI _ _ _ _ _ _ 7 _ _ w.drew
  have HS0 := Lib.hid (show (fun V => Below w.heap.size w V) w.drew from (Below.refl _ _).drew)
  refine' anyI_take R 0 rfl (v := ?_) (by kernel_rfl) (by rfl) (fun V hV => ?hy) HS0.out ?_
  case hy => ((try dsimp only at hV);  have p0 := (HC.out V hV).1; have p1 := (HC.out V hV).2; go_simp; try with_reducible rfl)
  try simp only [Act.put, List.getElem_toArray, List.getElem_cons_succ, List.getElem_cons_zero, List.setIfInBounds_toArray, List.set_cons_zero, List.set_cons_succ]
  refine' anyI_take R 1 rfl (v := ?_) (by kernel_rfl) (by rfl) (fun V hV => ?hy) HS0.out ?_
  case hy => ((try dsimp only at hV);  have p0 := (HC.out V hV).1; have p1 := (HC.out V hV).2; go_simp; try with_reducible rfl)
  try simp only [Act.put, List.getElem_toArray, List.getElem_cons_succ, List.getElem_cons_zero, List.setIfInBounds_toArray, List.set_cons_zero, List.set_cons_succ]
  refine' anyI_take R 2 rfl (v := ?_) (by kernel_rfl) (by rfl) (fun V hV => ?hy) HS0.out ?_
  case hy => ((try dsimp only at hV);  have p0 := (HC.out V hV).1; have p1 := (HC.out V hV).2; go_simp; try with_reducible rfl)
  try simp only [Act.put, List.getElem_toArray, List.getElem_cons_succ, List.getElem_cons_zero, List.setIfInBounds_toArray, List.set_cons_zero, List.set_cons_succ]
  refine' anyI_take R 3 rfl (v := ?_) (by kernel_rfl) (by rfl) (fun V hV => ?hy) HS0.out ?_
  case hy => ((try dsimp only at hV);  have p0 := (HC.out V hV).1; have p1 := (HC.out V hV).2; go_simp; try with_reducible rfl)
  try simp only [Act.put, List.getElem_toArray, List.getElem_cons_succ, List.getElem_cons_zero, List.setIfInBounds_toArray, List.set_cons_zero, List.set_cons_succ]
  refine anyI_one 4 (by kernel_rfl) rfl ?_
  try simp only [List.getElem_toArray, List.getElem_cons_succ, List.getElem_cons_zero]
  refine opE_step ?_
  rw [if_pos (by rfl)]
  go_simp
  go_at_call 24
  refine (CR.out _ HS0.out).mono ?_
  rintro e wr ⟨vr, rfl, Or, hbr⟩
  obtain ⟨Ar, cr, rfl, hcr, rdr⟩ := Or.rd
  have HRr := Lib.hid rdr
  replace HS0 := Lib.hid (HS0.out.trans (hbr.mono HS0.out.size))
  clear hbr Or rdr
  try dsimp only
  refine ⟨HS0.out, ?_⟩
  try simp only [Act.put, List.getElem_toArray, List.getElem_cons_succ, List.getElem_cons_zero, List.setIfInBounds_toArray, List.set_cons_zero, List.set_cons_succ]
  refine anyI_one 5 (by kernel_rfl) rfl ?_
  try simp only [List.getElem_toArray, List.getElem_cons_succ, List.getElem_cons_zero]
  refine opE_step ?_
  rw [if_pos (by rfl)]
  go_simp
  go_at_call 23
  refine (refCheckRec_any Ar l.length cr s l wr rfl hcr hs HRr.out).mono ?_
  rintro e we ⟨rfl, hbe⟩
  replace HS0 := Lib.hid (HS0.out.trans (hbe.mono HS0.out.size))
  clear hbe HRr
  try dsimp only
  refine ⟨HS0.out, ?_⟩
  try simp only [Act.put, List.getElem_toArray, List.getElem_cons_succ, List.getElem_cons_zero, List.setIfInBounds_toArray, List.set_cons_zero, List.set_cons_succ]
  refine' anyI_take R 6 rfl (v := ?_) (by kernel_rfl) (by rfl) (fun V hV => ?hy) HS0.out ?_
  case hy => ((try dsimp only at hV);  have p0 := (HC.out V hV).1; have p1 := (HC.out V hV).2; go_simp; try with_reducible rfl)
  try simp only [Act.put, List.getElem_toArray, List.getElem_cons_succ, List.getElem_cons_zero, List.setIfInBounds_toArray, List.set_cons_zero, List.set_cons_succ]
  refine anyI_tail (by kernel_rfl) ?_
  try simp only [List.drop_succ_cons, List.drop_zero]
  clear R
  go_wp2_with fail
  refine NoPanic.normal ?_
  go_wp2_with fail
  exact HK.out _ _ _ _ _ _ _ HS0.out
set_option maxRecDepth 100000 in
set_option maxHeartbeats 3200000 in
theorem lpE  {w : World} (u0 u1 u2 u3 u4 u5 u6 u7 u8 u9 u10 u11 u12 u13 u14 u15 u16 u17 u18 u19 u20 u21 u22 u23 u24 u25 u26 u27 u28 u29 u30 u31 u32 u33 u34 u35 u36 u37 u38 u39 u40 u41 u42 u43 u44 u45 u46 u47 u48 u49 u50 u51 u52 u53 u54 u55 u56 u57 u58 u59 u60 u61 u62 u63 u64 u65 u66 u67 u68 u69 u70 u71 u72 u73 u74 u75 u76 u77 u78 u79 u80 u81 u82 u83 u84 u85 u86 u87 u88 u89 u90 u91 u92 u93 u94 u95 u96 u97 u98 u99 ua0 ua1 ua2 ua3 ua4 ua5 ua6 ua7 ua8 ua9 ub0 ub1 ub2 ub3 ub4 ub5 ub6 ub7 ub8 ub9 uc0 uc1 uc2 uc3 uc4 uc5 uc6 uc7 uc8 uc9 ud0 ud1 ud2 ud3 ud4 ud5 ud6 ud7 ud8 ud9 ue0 ue1 ue2 ue3 ue4 ue5 ue6 ue7 ue8 ue9 uf0 uf1 uf2 uf3 uf4 uf5 uf6 uf7 uf8 uf9 ug0 ug1 ug2 ug3 ug4 ug5 ug6 ug7 ug8 ug9 uh0 uh1 uh2 uh3 uh4 uh5 uh6 uh7 uh8 uh9 ui0 ui1 ui2 ui3 ui4 ui5 ui6 ui7 ui8 ui9 uj0 uj1 uj2 uj3 uj4 uj5 uj6 uj7 uj8 uj9 uk0 uk1 uk2 uk3 uk4 uk5 uk6 uk7 uk8 uk9 ul0 ul1 ul2 ul3 ul4 ul5 ul6 ul7 ul8 ul9 um0 um1 um2 um3 um4 um5 um6 um7 um8 um9 un0 un1 un2 un3 un4 un5 un6 un7 un8 un9 uo0 uo1 uo2 uo3 uo4 uo5 uo6 uo7 uo8 uo9 up0 up1 up2 up3 up4 up5 up6 up7 up8 up9 uq0 uq1 uq2 uq3 uq4 uq5 uq6 uq7 uq8 uq9 ur0 ur1 ur2 ur3 ur4 ur5 ur6 ur7 ur8 ur9 us0 us1 us2 us3 us4 us5 us6 us7 us8 us9 ut0 ut1 ut2 ut3 ut4 ut5 ut6 ut7 ut8 ut9 uu0 uu1 uu2 uu3 uu4 uu5 uu6 uu7 uu8 uu9 uv0 uv1 uv2 uv3 uv4 uv5 uv6 uv7 uv8 uv9 uw0 uw1 uw2 uw3 : Value) (K : Act → World → Prop) (Q0 : Exit → Act → World → Prop) 
    (hK :  K ⟨List.toArray (u0::u1::u2::u3::u4::u5::u6::u7::u8::u9::u10::(.int .i64 0)::u12::u13::u14::u15::u16::u17::u18::u19::u20::u21::u22::u23::u24::u25::u26::u27::u28::u29::u30::u31::u32::u33::u34::u35::u36::u37::u38::u39::u40::u41::u42::u43::u44::u45::u46::u47::u48::u49::u50::u51::u52::u53::u54::u55::u56::u57::u58::u59::u60::u61::u62::u63::u64::u65::u66::u67::u68::u69::u70::u71::u72::u73::u74::u75::u76::u77::u78::u79::u80::u81::u82::u83::u84::u85::u86::u87::u88::u89::u90::u91::u92::u93::u94::u95::u96::u97::u98::u99::ua0::ua1::ua2::ua3::ua4::ua5::ua6::ua7::ua8::ua9::ub0::ub1::ub2::ub3::ub4::ub5::ub6::ub7::ub8::ub9::uc0::uc1::uc2::uc3::uc4::uc5::uc6::uc7::uc8::uc9::ud0::ud1::ud2::ud3::ud4::ud5::ud6::ud7::ud8::ud9::ue0::ue1::ue2::ue3::ue4::ue5::ue6::ue7::ue8::ue9::uf0::uf1::uf2::uf3::uf4::uf5::uf6::uf7::uf8::uf9::ug0::ug1::ug2::ug3::ug4::ug5::ug6::ug7::ug8::ug9::uh0::uh1::uh2::uh3::uh4::uh5::uh6::uh7::uh8::uh9::ui0::ui1::ui2::ui3::ui4::ui5::ui6::ui7::ui8::ui9::uj0::uj1::uj2::uj3::uj4::uj5::uj6::uj7::uj8::uj9::uk0::uk1::uk2::uk3::uk4::uk5::uk6::uk7::uk8::uk9::ul0::ul1::ul2::ul3::ul4::ul5::ul6::ul7::ul8::ul9::um0::um1::um2::um3::um4::um5::um6::um7::um8::um9::un0::un1::un2::un3::un4::un5::un6::un7::un8::un9::uo0::uo1::uo2::uo3::uo4::uo5::uo6::uo7::uo8::uo9::up0::up1::up2::up3::up4::up5::up6::up7::up8::up9::uq0::uq1::uq2::uq3::uq4::uq5::uq6::uq7::uq8::uq9::ur0::ur1::ur2::ur3::ur4::ur5::ur6::ur7::ur8::ur9::us0::us1::us2::us3::us4::us5::us6::us7::us8::us9::ut0::ut1::ut2::ut3::ut4::ut5::ut6::ut7::ut8::ut9::uu0::uu1::uu2::uu3::uu4::uu5::uu6::uu7::uu8::uu9::uv0::uv1::uv2::uv3::uv4::uv5::uv6::uv7::uv8::uv9::uw0::uw1::uw2::uw3::[]), []⟩ w) :
    Code.wp Tryd.prog (sub [1, 1, 1, 1, 0, 1, 0, 0, 1, 0, 0, 1, 1, 1, 1, 0] codeLP) (Exit.then K Q0) ⟨List.toArray (u0::u1::u2::u3::u4::u5::u6::u7::u8::u9::u10::u11::u12::u13::u14::u15::u16::u17::u18::u19::u20::u21::u22::u23::u24::u25::u26::u27::u28::u29::u30::u31::u32::u33::u34::u35::u36::u37::u38::u39::u40::u41::u42::u43::u44::u45::u46::u47::u48::u49::u50::u51::u52::u53::u54::u55::u56::u57::u58::u59::u60::u61::u62::u63::u64::u65::u66::u67::u68::u69::u70::u71::u72::u73::u74::u75::u76::u77::u78::u79::u80::u81::u82::u83::u84::u85::u86::u87::u88::u89::u90::u91::u92::u93::u94::u95::u96::u97::u98::u99::ua0::ua1::ua2::ua3::ua4::ua5::ua6::ua7::ua8::ua9::ub0::ub1::ub2::ub3::ub4::ub5::ub6::ub7::ub8::ub9::uc0::uc1::uc2::uc3::uc4::uc5::uc6::uc7::uc8::uc9::ud0::ud1::ud2::ud3::ud4::ud5::ud6::ud7::ud8::ud9::ue0::ue1::ue2::ue3::ue4::ue5::ue6::ue7::ue8::ue9::uf0::uf1::uf2::uf3::uf4::uf5::uf6::uf7::uf8::uf9::ug0::ug1::ug2::ug3::ug4::ug5::ug6::ug7::ug8::ug9::uh0::uh1::uh2::uh3::uh4::uh5::uh6::uh7::uh8::uh9::ui0::ui1::ui2::ui3::ui4::ui5::ui6::ui7::ui8::ui9::uj0::uj1::uj2::uj3::uj4::uj5::uj6::uj7::uj8::uj9::uk0::uk1::uk2::uk3::uk4::uk5::uk6::uk7::uk8::uk9::ul0::ul1::ul2::ul3::ul4::ul5::ul6::ul7::ul8::ul9::um0::um1::um2::um3::um4::um5::um6::um7::um8::um9::un0::un1::un2::un3::un4::un5::un6::un7::un8::un9::uo0::uo1::uo2::uo3::uo4::uo5::uo6::uo7::uo8::uo9::up0::up1::up2::up3::up4::up5::up6::up7::up8::up9::uq0::uq1::uq2::uq3::uq4::uq5::uq6::uq7::uq8::uq9::ur0::ur1::ur2::ur3::ur4::ur5::ur6::ur7::ur8::ur9::us0::us1::us2::us3::us4::us5::us6::us7::us8::us9::ut0::ut1::ut2::ut3::ut4::ut5::ut6::ut7::ut8::ut9::uu0::uu1::uu2::uu3::uu4::uu5::uu6::uu7::uu8::uu9::uv0::uv1::uv2::uv3::uv4::uv5::uv6::uv7::uv8::uv9::uw0::uw1::uw2::uw3::[]), []⟩ w := by
  have HK := Lib.hid hK
  clear hK
  conv => arg 2; whnf
  go_wp2_with fail
  exact HK.out 
set_option maxRecDepth 100000 in
set_option maxHeartbeats 3200000 in
theorem lpF {m : Bool} {w : World} (u0 u1 u2 u3 u4 u5 u6 u7 u8 u9 u12 u13 u14 u15 u16 u17 u18 u19 u20 u21 u22 u23 u24 u25 u26 u27 u28 u29 u30 u31 u32 u33 u34 u35 u36 u37 u38 u39 u40 u41 u42 u43 u44 u45 u46 u47 u48 u49 u50 u51 u52 u53 u54 u55 u56 u57 u58 u59 u60 u61 u62 u63 u64 u65 u66 u67 u68 u69 u70 u71 u72 u73 u74 u75 u76 u77 u78 u79 u80 u81 u82 u83 u84 u85 u86 u87 u88 u89 u90 u91 u92 u93 u94 u95 u96 u97 u98 u99 ua0 ua1 ua2 ua3 ua4 ua5 ua6 ua7 ua8 ua9 ub0 ub1 ub2 ub3 ub4 ub5 ub6 ub7 ub8 ub9 uc0 uc1 uc2 uc3 uc4 uc5 uc6 uc7 uc8 uc9 ud0 ud1 ud2 ud3 ud4 ud5 ud6 ud7 ud8 ud9 ue0 ue1 ue2 ue3 ue4 ue5 ue6 ue7 ue8 ue9 uf0 uf1 uf2 uf3 uf4 uf5 uf6 uf7 uf8 uf9 ug0 ug1 ug2 ug3 ug4 ug5 ug6 ug7 ug8 ug9 uh0 uh1 uh2 uh3 uh4 uh5 uh6 uh7 uh8 uh9 ui0 ui1 ui2 ui3 ui4 ui5 ui6 ui7 ui8 ui9 uj0 uj1 uj2 uj3 uj4 uj5 uj6 uj7 uj8 uj9 uk0 uk1 uk2 uk3 uk4 uk5 uk6 uk7 uk8 uk9 ul0 ul1 ul2 ul3 ul4 ul5 ul6 ul7 ul8 ul9 um0 um1 um2 um3 um4 um5 um6 um7 um8 um9 un0 un1 un2 un3 un4 un5 un6 un7 un8 un9 uo0 uo1 uo2 uo3 uo4 uo5 uo6 uo7 uo8 uo9 up0 up1 up2 up3 up4 up5 up6 up7 up8 up9 uq0 uq1 uq2 uq3 uq4 uq5 uq6 uq7 uq8 uq9 ur0 ur1 ur2 ur3 ur4 ur5 ur6 ur7 ur8 ur9 us0 us1 us2 us3 us4 us5 us6 us7 us8 us9 ut0 ut1 ut2 ut3 ut4 ut5 ut6 ut7 ut8 ut9 uu0 uu1 uu2 uu3 uu4 uu5 uu6 uu7 uu8 uu9 uv0 uv1 uv2 uv3 uv4 uv5 uv6 uv7 uv8 uv9 uw0 uw1 uw2 uw3 : Value) (K : Act → World → Prop) (Q0 : Exit → Act → World → Prop) 
    (hK : ∀ (va1 va2 : Value), K ⟨List.toArray (u0::u1::u2::u3::u4::u5::u6::u7::u8::u9::(.bool m)::(.int .i64 (if m = true then 0 else 1))::u12::u13::u14::u15::u16::u17::u18::u19::u20::u21::u22::u23::u24::u25::u26::u27::u28::u29::u30::u31::u32::u33::u34::u35::u36::u37::u38::u39::u40::u41::u42::u43::u44::u45::u46::u47::u48::u49::u50::u51::u52::u53::u54::u55::u56::u57::u58::u59::u60::u61::u62::u63::u64::u65::u66::u67::u68::u69::u70::u71::u72::u73::u74::u75::u76::u77::u78::u79::u80::u81::u82::u83::u84::u85::u86::u87::u88::u89::u90::u91::u92::u93::u94::u95::u96::u97::u98::u99::ua0::va1::va2::ua3::ua4::ua5::ua6::ua7::ua8::ua9::ub0::ub1::ub2::ub3::ub4::ub5::ub6::ub7::ub8::ub9::uc0::uc1::uc2::uc3::uc4::uc5::uc6::uc7::uc8::uc9::ud0::ud1::ud2::ud3::ud4::ud5::ud6::ud7::ud8::ud9::ue0::ue1::ue2::ue3::ue4::ue5::ue6::ue7::ue8::ue9::uf0::uf1::uf2::uf3::uf4::uf5::uf6::uf7::uf8::uf9::ug0::ug1::ug2::ug3::ug4::ug5::ug6::ug7::ug8::ug9::uh0::uh1::uh2::uh3::uh4::uh5::uh6::uh7::uh8::uh9::ui0::ui1::ui2::ui3::ui4::ui5::ui6::ui7::ui8::ui9::uj0::uj1::uj2::uj3::uj4::uj5::uj6::uj7::uj8::uj9::uk0::uk1::uk2::uk3::uk4::uk5::uk6::uk7::uk8::uk9::ul0::ul1::ul2::ul3::ul4::ul5::ul6::ul7::ul8::ul9::um0::um1::um2::um3::um4::um5::um6::um7::um8::um9::un0::un1::un2::un3::un4::un5::un6::un7::un8::un9::uo0::uo1::uo2::uo3::uo4::uo5::uo6::uo7::uo8::uo9::up0::up1::up2::up3::up4::up5::up6::up7::up8::up9::uq0::uq1::uq2::uq3::uq4::uq5::uq6::uq7::uq8::uq9::ur0::ur1::ur2::ur3::ur4::ur5::ur6::ur7::ur8::ur9::us0::us1::us2::us3::us4::us5::us6::us7::us8::us9::ut0::ut1::ut2::ut3::ut4::ut5::ut6::ut7::ut8::ut9::uu0::uu1::uu2::uu3::uu4::uu5::uu6::uu7::uu8::uu9::uv0::uv1::uv2::uv3::uv4::uv5::uv6::uv7::uv8::uv9::uw0::uw1::uw2::uw3::[]), []⟩ w) :
    Code.wp Tryd.prog (sub [1, 1, 1, 1, 0, 1, 0, 0, 1, 0, 0, 1, 1, 1, 1, 1, 0] codeLP) (Exit.then K Q0) ⟨List.toArray (u0::u1::u2::u3::u4::u5::u6::u7::u8::u9::(.bool m)::(.int .i64 0)::u12::u13::u14::u15::u16::u17::u18::u19::u20::u21::u22::u23::u24::u25::u26::u27::u28::u29::u30::u31::u32::u33::u34::u35::u36::u37::u38::u39::u40::u41::u42::u43::u44::u45::u46::u47::u48::u49::u50::u51::u52::u53::u54::u55::u56::u57::u58::u59::u60::u61::u62::u63::u64::u65::u66::u67::u68::u69::u70::u71::u72::u73::u74::u75::u76::u77::u78::u79::u80::u81::u82::u83::u84::u85::u86::u87::u88::u89::u90::u91::u92::u93::u94::u95::u96::u97::u98::u99::ua0::ua1::ua2::ua3::ua4::ua5::ua6::ua7::ua8::ua9::ub0::ub1::ub2::ub3::ub4::ub5::ub6::ub7::ub8::ub9::uc0::uc1::uc2::uc3::uc4::uc5::uc6::uc7::uc8::uc9::ud0::ud1::ud2::ud3::ud4::ud5::ud6::ud7::ud8::ud9::ue0::ue1::ue2::ue3::ue4::ue5::ue6::ue7::ue8::ue9::uf0::uf1::uf2::uf3::uf4::uf5::uf6::uf7::uf8::uf9::ug0::ug1::ug2::ug3::ug4::ug5::ug6::ug7::ug8::ug9::uh0::uh1::uh2::uh3::uh4::uh5::uh6::uh7::uh8::uh9::ui0::ui1::ui2::ui3::ui4::ui5::ui6::ui7::ui8::ui9::uj0::uj1::uj2::uj3::uj4::uj5::uj6::uj7::uj8::uj9::uk0::uk1::uk2::uk3::uk4::uk5::uk6::uk7::uk8::uk9::ul0::ul1::ul2::ul3::ul4::ul5::ul6::ul7::ul8::ul9::um0::um1::um2::um3::um4::um5::um6::um7::um8::um9::un0::un1::un2::un3::un4::un5::un6::un7::un8::un9::uo0::uo1::uo2::uo3::uo4::uo5::uo6::uo7::uo8::uo9::up0::up1::up2::up3::up4::up5::up6::up7::up8::up9::uq0::uq1::uq2::uq3::uq4::uq5::uq6::uq7::uq8::uq9::ur0::ur1::ur2::ur3::ur4::ur5::ur6::ur7::ur8::ur9::us0::us1::us2::us3::us4::us5::us6::us7::us8::us9::ut0::ut1::ut2::ut3::ut4::ut5::ut6::ut7::ut8::ut9::uu0::uu1::uu2::uu3::uu4::uu5::uu6::uu7::uu8::uu9::uv0::uv1::uv2::uv3::uv4::uv5::uv6::uv7::uv8::uv9::uw0::uw1::uw2::uw3::[]), []⟩ w := by
  have HK := Lib.hid hK
  clear hK
  conv => arg 2; whnf
  cases m
  · go_wp2_with fail
    exact HK.out _ _ 
  · go_wp2_with fail
    exact HK.out _ _ 
set_option maxRecDepth 100000 in
set_option maxHeartbeats 3200000 in
theorem lpG {z1 : Int} {d : Nat} {zb zo zl cl b hv i : Nat} {w : World} (u1 u2 u4 u7 u8 u9 u10 u11 u12 u13 u14 u15 u16 u17 u18 u19 u20 u21 u22 u23 u24 u25 u26 u27 u28 u29 u30 u31 u32 u33 u34 u35 u36 u37 u38 u39 u40 u41 u42 u43 u44 u45 u46 u47 u48 u49 u50 u51 u52 u53 u54 u55 u56 u57 u58 u59 u60 u61 u62 u63 u64 u65 u66 u67 u68 u69 u70 u71 u72 u73 u74 u75 u76 u77 u78 u79 u80 u81 u82 u83 u84 u85 u86 u87 u88 u89 u90 u91 u92 u93 u94 u95 u96 u97 u98 u99 ua0 ua1 ua2 ua3 ua4 ua5 ua6 ua7 ua8 ua9 ub0 ub1 ub2 ub3 ub4 ub5 ub6 ub7 ub8 ub9 uc0 uc1 uc2 uc3 uc4 uc5 uc6 uc7 uc8 uc9 ud0 ud1 ud2 ud3 ud4 ud5 ud6 ud7 ud8 ud9 ue0 ue1 ue2 ue3 ue4 ue5 ue6 ue7 ue8 ue9 uf0 uf1 uf2 uf3 uf4 uf5 uf6 uf7 uf8 uf9 ug0 ug1 ug2 ug3 ug4 ug5 ug6 ug7 ug8 ug9 uh0 uh1 uh2 uh3 uh4 uh5 uh6 uh7 uh8 uh9 ui0 ui1 ui2 ui3 ui4 ui5 ui6 ui7 ui8 ui9 uj0 uj1 uj2 uj3 uj4 uj5 uj6 uj7 uj8 uj9 uk0 uk1 uk2 uk3 uk4 uk5 uk6 uk7 uk8 uk9 ul0 ul1 ul2 ul3 ul4 ul5 ul6 ul7 ul8 ul9 um0 um1 um2 um3 um4 um5 um6 um7 um8 um9 un0 un1 un2 un3 un4 un5 un6 un7 un8 un9 uo0 uo1 uo2 uo3 uo4 uo5 uo6 uo7 uo8 uo9 up0 up1 up2 up3 up4 up5 up6 up7 up8 up9 uq0 uq1 uq2 uq3 uq4 uq5 uq6 uq7 uq8 uq9 ur0 ur1 ur2 ur3 ur4 ur5 ur6 ur7 ur8 ur9 us0 us1 us2 us3 us4 us5 us6 us7 us8 us9 ut0 ut1 ut2 ut3 ut4 ut5 ut6 ut7 ut8 ut9 uu0 uu1 uu2 uu3 uu4 uu5 uu6 uu7 uu8 uu9 uv0 uv1 uv2 uv3 uv4 uv5 uv6 uv7 uv8 uv9 uw0 uw1 uw2 uw3 : Value) (K : Act → World → Prop) (Q0 : Exit → Act → World → Prop) (hi : i < 60) (hz : i + 3 < zl) (hz1 : (-9223372036854775808 ≤ z1 ∧ z1 ≤ 9223372036854775807)) (hd : withinI z1 4 = (d : Int)) (hc : w.cell? ⟨zb, zo + (i + 1), none⟩ = some (.int .i64 z1)) 
    (hK : ∀ (va3 va4 va5 va6 va7 va8 : Value), K ⟨List.toArray ((.slice (some ⟨zb, zo, none⟩) zl cl)::u1::u2::(.pointer (some ⟨b, 0, none⟩))::u4::(.pointer (some ⟨hv, 0, none⟩))::(.int .i64 ((i : Nat) : Int))::u7::u8::u9::u10::u11::(.int .i64 ((d : Nat) : Int))::u13::u14::u15::u16::u17::u18::u19::u20::u21::u22::u23::u24::u25::u26::u27::u28::u29::u30::u31::u32::u33::u34::u35::u36::u37::u38::u39::u40::u41::u42::u43::u44::u45::u46::u47::u48::u49::u50::u51::u52::u53::u54::u55::u56::u57::u58::u59::u60::u61::u62::u63::u64::u65::u66::u67::u68::u69::u70::u71::u72::u73::u74::u75::u76::u77::u78::u79::u80::u81::u82::u83::u84::u85::u86::u87::u88::u89::u90::u91::u92::u93::u94::u95::u96::u97::u98::u99::ua0::ua1::ua2::va3::va4::va5::va6::va7::va8::ua9::ub0::ub1::ub2::ub3::ub4::ub5::ub6::ub7::ub8::ub9::uc0::uc1::uc2::uc3::uc4::uc5::uc6::uc7::uc8::uc9::ud0::ud1::ud2::ud3::ud4::ud5::ud6::ud7::ud8::ud9::ue0::ue1::ue2::ue3::ue4::ue5::ue6::ue7::ue8::ue9::uf0::uf1::uf2::uf3::uf4::uf5::uf6::uf7::uf8::uf9::ug0::ug1::ug2::ug3::ug4::ug5::ug6::ug7::ug8::ug9::uh0::uh1::uh2::uh3::uh4::uh5::uh6::uh7::uh8::uh9::ui0::ui1::ui2::ui3::ui4::ui5::ui6::ui7::ui8::ui9::uj0::uj1::uj2::uj3::uj4::uj5::uj6::uj7::uj8::uj9::uk0::uk1::uk2::uk3::uk4::uk5::uk6::uk7::uk8::uk9::ul0::ul1::ul2::ul3::ul4::ul5::ul6::ul7::ul8::ul9::um0::um1::um2::um3::um4::um5::um6::um7::um8::um9::un0::un1::un2::un3::un4::un5::un6::un7::un8::un9::uo0::uo1::uo2::uo3::uo4::uo5::uo6::uo7::uo8::uo9::up0::up1::up2::up3::up4::up5::up6::up7::up8::up9::uq0::uq1::uq2::uq3::uq4::uq5::uq6::uq7::uq8::uq9::ur0::ur1::ur2::ur3::ur4::ur5::ur6::ur7::ur8::ur9::us0::us1::us2::us3::us4::us5::us6::us7::us8::us9::ut0::ut1::ut2::ut3::ut4::ut5::ut6::ut7::ut8::ut9::uu0::uu1::uu2::uu3::uu4::uu5::uu6::uu7::uu8::uu9::uv0::uv1::uv2::uv3::uv4::uv5::uv6::uv7::uv8::uv9::uw0::uw1::uw2::uw3::[]), []⟩ w) :
    Code.wp Tryd.prog (sub [1, 1, 1, 1, 0, 1, 0, 0, 1, 0, 0, 1, 1, 1, 1, 1, 1, 0] codeLP) (Exit.then K Q0) ⟨List.toArray ((.slice (some ⟨zb, zo, none⟩) zl cl)::u1::u2::(.pointer (some ⟨b, 0, none⟩))::u4::(.pointer (some ⟨hv, 0, none⟩))::(.int .i64 ((i : Nat) : Int))::u7::u8::u9::u10::u11::u12::u13::u14::u15::u16::u17::u18::u19::u20::u21::u22::u23::u24::u25::u26::u27::u28::u29::u30::u31::u32::u33::u34::u35::u36::u37::u38::u39::u40::u41::u42::u43::u44::u45::u46::u47::u48::u49::u50::u51::u52::u53::u54::u55::u56::u57::u58::u59::u60::u61::u62::u63::u64::u65::u66::u67::u68::u69::u70::u71::u72::u73::u74::u75::u76::u77::u78::u79::u80::u81::u82::u83::u84::u85::u86::u87::u88::u89::u90::u91::u92::u93::u94::u95::u96::u97::u98::u99::ua0::ua1::ua2::ua3::ua4::ua5::ua6::ua7::ua8::ua9::ub0::ub1::ub2::ub3::ub4::ub5::ub6::ub7::ub8::ub9::uc0::uc1::uc2::uc3::uc4::uc5::uc6::uc7::uc8::uc9::ud0::ud1::ud2::ud3::ud4::ud5::ud6::ud7::ud8::ud9::ue0::ue1::ue2::ue3::ue4::ue5::ue6::ue7::ue8::ue9::uf0::uf1::uf2::uf3::uf4::uf5::uf6::uf7::uf8::uf9::ug0::ug1::ug2::ug3::ug4::ug5::ug6::ug7::ug8::ug9::uh0::uh1::uh2::uh3::uh4::uh5::uh6::uh7::uh8::uh9::ui0::ui1::ui2::ui3::ui4::ui5::ui6::ui7::ui8::ui9::uj0::uj1::uj2::uj3::uj4::uj5::uj6::uj7::uj8::uj9::uk0::uk1::uk2::uk3::uk4::uk5::uk6::uk7::uk8::uk9::ul0::ul1::ul2::ul3::ul4::ul5::ul6::ul7::ul8::ul9::um0::um1::um2::um3::um4::um5::um6::um7::um8::um9::un0::un1::un2::un3::un4::un5::un6::un7::un8::un9::uo0::uo1::uo2::uo3::uo4::uo5::uo6::uo7::uo8::uo9::up0::up1::up2::up3::up4::up5::up6::up7::up8::up9::uq0::uq1::uq2::uq3::uq4::uq5::uq6::uq7::uq8::uq9::ur0::ur1::ur2::ur3::ur4::ur5::ur6::ur7::ur8::ur9::us0::us1::us2::us3::us4::us5::us6::us7::us8::us9::ut0::ut1::ut2::ut3::ut4::ut5::ut6::ut7::ut8::ut9::uu0::uu1::uu2::uu3::uu4::uu5::uu6::uu7::uu8::uu9::uv0::uv1::uv2::uv3::uv4::uv5::uv6::uv7::uv8::uv9::uw0::uw1::uw2::uw3::[]), []⟩ w := by
  have HK := Lib.hid hK
  clear hK
  conv => arg 2; whnf
  have i0 : (0 : Int) ≤ (i : Int) := by omega
  have i2 : IntKind.i64.wrap ((i : Int) + 1) = (i : Int) + 1 := by rw [IntKind.wrap_i64]; omega
  have i3 : IntKind.i64.wrap ((i : Int) + 2) = (i : Int) + 2 := by rw [IntKind.wrap_i64]; omega
  have i4 : IntKind.i64.wrap ((i : Int) + 3) = (i : Int) + 3 := by rw [IntKind.wrap_i64]; omega
  have i5 : (i : Int) + 1 < (zl : Int) := by omega
  have i6 : (i : Int) + 2 < (zl : Int) := by omega
  have i7 : (i : Int) + 3 < (zl : Int) := by omega
  have i8 : (0 : Int) ≤ (i : Int) + 1 := by omega
  have i9 : (0 : Int) ≤ (i : Int) + 2 := by omega
  have iA : (0 : Int) ≤ (i : Int) + 3 := by omega
  have iB : ((i : Int) + 1).toNat = i + 1 := by omega
  have iC : ((i : Int) + 2).toNat = i + 2 := by omega
  have iD : ((i : Int) + 3).toNat = i + 3 := by omega
  have W4 := Lib.hid (fun V => within_any z1 4 V hz1 (by omega))
  rw [hd] at W4
  clear hz1 hd
  go_wp2_with (go_at_call 9; (with_reducible refine (W4.out _).mono ?_); rintro e wx ⟨rfl, rfl⟩)
  exact HK.out _ _ _ _ _ _ 
end Go.Proofs.YtkbhnbkjpnigkaaDoor
end
