/- LogPlays: a round's end, piece by piece. -/
import Derived.Test.YtoomdgidpplpfaaDoorLogPlaysF
set_option linter.unusedVariables false
set_option linter.unusedSimpArgs false
namespace Go.Proofs.YtoomdgidpplpfaaDoor
open Go.RowKit

set_option maxRecDepth 100000 in
set_option maxHeartbeats 3200000 in
theorem lpI {w0 : World} {b hv : Nat} {H : BH} {N : Bch} {S : Nat → Int} {A : Nat → Option Addr} {L : Nat → List It} {c : Nat → Nat} {KL : List (Nat × Obj)} {RL : List (Option Addr × List It)} {w : World} (u0 u1 u2 u4 u5 u6 u7 u8 u9 u10 u11 u12 u13 u14 u15 u16 u17 u18 u19 u20 u21 u22 u23 u24 u25 u26 u27 u28 u29 u30 u31 u32 u33 u34 u35 u36 u37 u38 u39 u40 u41 u42 u43 u44 u45 u46 u47 u48 u49 u50 u51 u52 u53 u54 u55 u56 u57 u58 u59 u60 u61 u62 u63 u64 u65 u66 u67 u68 u69 u70 u71 u72 u73 u74 u75 u76 u77 u78 u79 u80 u81 u82 u83 u84 u85 u86 u87 u88 u89 u90 u91 u92 u93 u94 u95 u96 u97 u98 u99 ua0 ua1 ua2 ua3 ua4 ua5 ua6 ua7 ua8 ua9 ub0 ub1 ub2 ub3 ub4 ub5 ub6 ub7 ub8 ub9 uc0 uc1 uc2 uc3 uc4 uc5 uc6 uc7 uc8 uc9 ud0 ud1 ud2 ud3 ud4 ud5 ud6 ud7 ud8 ud9 ue0 ue1 ue2 ue3 ue4 ue5 ue6 ue7 ue8 ue9 uf0 uf1 uf2 uf3 uf4 uf5 uf6 uf7 uf8 uf9 ug0 ug1 ug2 ug3 ug4 ug5 ug6 ug7 ug8 ug9 uh0 uh1 uh2 uh3 uh4 uh5 uh6 uh7 uh8 uh9 ui0 ui1 ui2 ui3 ui4 ui5 ui6 ui7 ui8 ui9 uj0 uj1 uj2 uj3 uj4 uj5 uj6 uj7 uj8 uj9 uk0 uk1 uk2 uk3 uk4 uk5 uk6 uk7 uk8 uk9 ul0 ul1 ul2 ul3 ul4 ul5 ul6 ul7 ul8 ul9 um0 um1 um2 um3 um4 um5 um6 um7 um8 um9 un0 un1 un2 un3 un4 un5 un6 un7 un8 un9 uo0 uo1 uo2 uo3 uo4 uo5 uo6 uo7 uo8 uo9 up0 up1 up2 up3 up4 up5 up6 up7 up8 up9 uq0 uq1 uq2 uq3 uq4 uq5 uq6 uq7 uq8 uq9 ur0 ur1 ur2 ur3 ur4 ur5 ur6 ur7 ur8 ur9 us0 us1 us2 us3 us4 us5 us6 us7 us8 us9 ut0 ut1 ut2 ut3 ut4 ut5 ut6 ut7 ut8 ut9 uu0 uu1 uu2 uu3 uu4 uu5 uu6 uu7 uu8 uu9 uv0 uv1 uv2 uv3 uv4 uv5 uv6 uv7 uv8 uv9 uw0 uw1 uw2 uw3 : Value) (K : Act → World → Prop) (Q0 : Exit → Act → World → Prop) (h : HvS w0 w b H N hv S A L c KL RL) (hg : GoodB N) 
    (hK : ∀ (v2 vr6 vr7 vr8 : Value), K ⟨List.toArray (u0::u1::v2::(.pointer (some ⟨b, 0, none⟩))::u4::u5::u6::u7::u8::u9::u10::u11::u12::u13::u14::u15::u16::u17::u18::u19::u20::u21::u22::u23::u24::u25::u26::u27::u28::u29::u30::u31::u32::u33::u34::u35::u36::u37::u38::u39::u40::u41::u42::u43::u44::u45::u46::u47::u48::u49::u50::u51::u52::u53::u54::u55::u56::u57::u58::u59::u60::u61::u62::u63::u64::u65::u66::u67::u68::u69::u70::u71::u72::u73::u74::u75::u76::u77::u78::u79::u80::u81::u82::u83::u84::u85::u86::u87::u88::u89::u90::u91::u92::u93::u94::u95::u96::u97::u98::u99::ua0::ua1::ua2::ua3::ua4::ua5::ua6::ua7::ua8::ua9::ub0::ub1::ub2::ub3::ub4::ub5::ub6::ub7::ub8::ub9::uc0::uc1::uc2::uc3::uc4::uc5::uc6::uc7::uc8::uc9::ud0::ud1::ud2::ud3::ud4::ud5::ud6::ud7::ud8::ud9::ue0::ue1::ue2::ue3::ue4::ue5::ue6::ue7::ue8::ue9::uf0::uf1::uf2::uf3::uf4::uf5::uf6::uf7::uf8::uf9::ug0::ug1::ug2::ug3::ug4::ug5::ug6::ug7::ug8::ug9::uh0::uh1::uh2::uh3::uh4::uh5::uh6::uh7::uh8::uh9::ui0::ui1::ui2::ui3::ui4::ui5::ui6::ui7::ui8::ui9::uj0::uj1::uj2::uj3::uj4::uj5::uj6::uj7::uj8::uj9::uk0::uk1::uk2::uk3::uk4::uk5::uk6::uk7::uk8::uk9::ul0::ul1::ul2::ul3::ul4::ul5::ul6::ul7::ul8::ul9::um0::um1::um2::um3::um4::um5::um6::um7::um8::um9::un0::un1::un2::un3::un4::un5::un6::un7::un8::un9::uo0::uo1::uo2::uo3::uo4::uo5::uo6::uo7::uo8::uo9::up0::up1::up2::up3::up4::up5::up6::up7::up8::up9::uq0::uq1::uq2::uq3::uq4::uq5::uq6::uq7::uq8::uq9::ur0::ur1::ur2::ur3::ur4::ur5::vr6::vr7::vr8::ur9::us0::us1::us2::us3::us4::us5::us6::us7::us8::us9::ut0::ut1::ut2::ut3::ut4::ut5::ut6::ut7::ut8::ut9::uu0::uu1::uu2::uu3::uu4::uu5::uu6::uu7::uu8::uu9::uv0::uv1::uv2::uv3::uv4::uv5::uv6::uv7::uv8::uv9::uw0::uw1::uw2::uw3::[]), []⟩ w) :
    Code.wp Tryd.prog (sub [1, 1, 1, 1, 0, 1, 0, 0, 1, 0, 0, 1, 1, 1, 1, 1, 1, 1, 1, 0] codeLP) (Exit.then K Q0) ⟨List.toArray (u0::u1::u2::(.pointer (some ⟨b, 0, none⟩))::u4::u5::u6::u7::u8::u9::u10::u11::u12::u13::u14::u15::u16::u17::u18::u19::u20::u21::u22::u23::u24::u25::u26::u27::u28::u29::u30::u31::u32::u33::u34::u35::u36::u37::u38::u39::u40::u41::u42::u43::u44::u45::u46::u47::u48::u49::u50::u51::u52::u53::u54::u55::u56::u57::u58::u59::u60::u61::u62::u63::u64::u65::u66::u67::u68::u69::u70::u71::u72::u73::u74::u75::u76::u77::u78::u79::u80::u81::u82::u83::u84::u85::u86::u87::u88::u89::u90::u91::u92::u93::u94::u95::u96::u97::u98::u99::ua0::ua1::ua2::ua3::ua4::ua5::ua6::ua7::ua8::ua9::ub0::ub1::ub2::ub3::ub4::ub5::ub6::ub7::ub8::ub9::uc0::uc1::uc2::uc3::uc4::uc5::uc6::uc7::uc8::uc9::ud0::ud1::ud2::ud3::ud4::ud5::ud6::ud7::ud8::ud9::ue0::ue1::ue2::ue3::ue4::ue5::ue6::ue7::ue8::ue9::uf0::uf1::uf2::uf3::uf4::uf5::uf6::uf7::uf8::uf9::ug0::ug1::ug2::ug3::ug4::ug5::ug6::ug7::ug8::ug9::uh0::uh1::uh2::uh3::uh4::uh5::uh6::uh7::uh8::uh9::ui0::ui1::ui2::ui3::ui4::ui5::ui6::ui7::ui8::ui9::uj0::uj1::uj2::uj3::uj4::uj5::uj6::uj7::uj8::uj9::uk0::uk1::uk2::uk3::uk4::uk5::uk6::uk7::uk8::uk9::ul0::ul1::ul2::ul3::ul4::ul5::ul6::ul7::ul8::ul9::um0::um1::um2::um3::um4::um5::um6::um7::um8::um9::un0::un1::un2::un3::un4::un5::un6::un7::un8::un9::uo0::uo1::uo2::uo3::uo4::uo5::uo6::uo7::uo8::uo9::up0::up1::up2::up3::up4::up5::up6::up7::up8::up9::uq0::uq1::uq2::uq3::uq4::uq5::uq6::uq7::uq8::uq9::ur0::ur1::ur2::ur3::ur4::ur5::ur6::ur7::ur8::ur9::us0::us1::us2::us3::us4::us5::us6::us7::us8::us9::ut0::ut1::ut2::ut3::ut4::ut5::ut6::ut7::ut8::ut9::uu0::uu1::uu2::uu3::uu4::uu5::uu6::uu7::uu8::uu9::uv0::uv1::uv2::uv3::uv4::uv5::uv6::uv7::uv8::uv9::uw0::uw1::uw2::uw3::[]), []⟩ w := by
  have HK := Lib.hid hK
  clear hK
  conv => arg 2; whnf
  have CQ := bp_pending_eq w0 w b H N h.kr.kx.bp (fun i hi => Nat.le_trans (hg.len i hi) (by omega))
  rw [pend_good hg] at CQ
  have CQ := Lib.hid CQ
  clear h hg
  go_wp2_with (go_at_call 20; (with_reducible refine CQ.out.mono ?_); rintro e w9 ⟨rfl, h9⟩; obtain rfl : w = w9 := h9.symm)
  exact HK.out _ _ _ _ 
set_option maxRecDepth 100000 in
set_option maxHeartbeats 3200000 in
theorem lpJ  {w : World} (u0 u1 u2 u3 u4 u5 u6 u7 u8 u9 u10 u11 u12 u13 u14 u15 u16 u17 u18 u19 u20 u21 u22 u23 u24 u25 u26 u27 u28 u29 u30 u31 u32 u33 u34 u35 u36 u37 u38 u39 u40 u41 u42 u43 u44 u45 u46 u47 u48 u49 u50 u51 u52 u53 u54 u55 u56 u57 u58 u59 u60 u61 u62 u63 u64 u65 u66 u67 u68 u69 u70 u71 u72 u73 u74 u75 u76 u77 u78 u79 u80 u81 u82 u83 u84 u85 u86 u87 u88 u89 u90 u91 u92 u93 u94 u95 u96 u97 u98 u99 ua0 ua1 ua2 ua3 ua4 ua5 ua6 ua7 ua8 ua9 ub0 ub1 ub2 ub3 ub4 ub5 ub6 ub7 ub8 ub9 uc0 uc1 uc2 uc3 uc4 uc5 uc6 uc7 uc8 uc9 ud0 ud1 ud2 ud3 ud4 ud5 ud6 ud7 ud8 ud9 ue0 ue1 ue2 ue3 ue4 ue5 ue6 ue7 ue8 ue9 uf0 uf1 uf2 uf3 uf4 uf5 uf6 uf7 uf8 uf9 ug0 ug1 ug2 ug3 ug4 ug5 ug6 ug7 ug8 ug9 uh0 uh1 uh2 uh3 uh4 uh5 uh6 uh7 uh8 uh9 ui0 ui1 ui2 ui3 ui4 ui5 ui6 ui7 ui8 ui9 uj0 uj1 uj2 uj3 uj4 uj5 uj6 uj7 uj8 uj9 uk0 uk1 uk2 uk3 uk4 uk5 uk6 uk7 uk8 uk9 ul0 ul1 ul2 ul3 ul4 ul5 ul6 ul7 ul8 ul9 um0 um1 um2 um3 um4 um5 um6 um7 um8 um9 un0 un1 un2 un3 un4 un5 un6 un7 un8 un9 uo0 uo1 uo2 uo3 uo4 uo5 uo6 uo7 uo8 uo9 up0 up1 up2 up3 up4 up5 up6 up7 up8 up9 uq0 uq1 uq2 uq3 uq4 uq5 uq6 uq7 uq8 uq9 ur0 ur1 ur2 ur3 ur4 ur5 ur6 ur7 ur8 ur9 us0 us1 us2 us3 us4 us5 us6 us7 us8 us9 ut0 ut1 ut2 ut3 ut4 ut5 ut6 ut7 ut8 ut9 uu0 uu1 uu2 uu3 uu4 uu5 uu6 uu7 uu8 uu9 uv0 uv1 uv2 uv3 uv4 uv5 uv6 uv7 uv8 uv9 uw0 uw1 uw2 uw3 : Value) (K : Act → World → Prop) (Q0 : Exit → Act → World → Prop) 
    (hK : ∀ (vr9 : Value) (p27 : Nat) (V : World), V = w.alloc (.cells #[.int .i64 0, .slice none 0 0] 29 (0, 0)) → p27 = w.heap.size → K ⟨List.toArray (u0::u1::u2::u3::u4::u5::u6::u7::u8::u9::u10::u11::u12::u13::u14::u15::u16::u17::u18::u19::u20::u21::u22::u23::u24::u25::u26::(.pointer (some ⟨p27, 0, none⟩))::u28::u29::u30::u31::u32::u33::u34::u35::u36::u37::u38::u39::u40::u41::u42::u43::u44::u45::u46::u47::u48::u49::u50::u51::u52::u53::u54::u55::u56::u57::u58::u59::u60::u61::u62::u63::u64::u65::u66::u67::u68::u69::u70::u71::u72::u73::u74::u75::u76::u77::u78::u79::u80::u81::u82::u83::u84::u85::u86::u87::u88::u89::u90::u91::u92::u93::u94::u95::u96::u97::u98::u99::ua0::ua1::ua2::ua3::ua4::ua5::ua6::ua7::ua8::ua9::ub0::ub1::ub2::ub3::ub4::ub5::ub6::ub7::ub8::ub9::uc0::uc1::uc2::uc3::uc4::uc5::uc6::uc7::uc8::uc9::ud0::ud1::ud2::ud3::ud4::ud5::ud6::ud7::ud8::ud9::ue0::ue1::ue2::ue3::ue4::ue5::ue6::ue7::ue8::ue9::uf0::uf1::uf2::uf3::uf4::uf5::uf6::uf7::uf8::uf9::ug0::ug1::ug2::ug3::ug4::ug5::ug6::ug7::ug8::ug9::uh0::uh1::uh2::uh3::uh4::uh5::uh6::uh7::uh8::uh9::ui0::ui1::ui2::ui3::ui4::ui5::ui6::ui7::ui8::ui9::uj0::uj1::uj2::uj3::uj4::uj5::uj6::uj7::uj8::uj9::uk0::uk1::uk2::uk3::uk4::uk5::uk6::uk7::uk8::uk9::ul0::ul1::ul2::ul3::ul4::ul5::ul6::ul7::ul8::ul9::um0::um1::um2::um3::um4::um5::um6::um7::um8::um9::un0::un1::un2::un3::un4::un5::un6::un7::un8::un9::uo0::uo1::uo2::uo3::uo4::uo5::uo6::uo7::uo8::uo9::up0::up1::up2::up3::up4::up5::up6::up7::up8::up9::uq0::uq1::uq2::uq3::uq4::uq5::uq6::uq7::uq8::uq9::ur0::ur1::ur2::ur3::ur4::ur5::ur6::ur7::ur8::vr9::us0::us1::us2::us3::us4::us5::us6::us7::us8::us9::ut0::ut1::ut2::ut3::ut4::ut5::ut6::ut7::ut8::ut9::uu0::uu1::uu2::uu3::uu4::uu5::uu6::uu7::uu8::uu9::uv0::uv1::uv2::uv3::uv4::uv5::uv6::uv7::uv8::uv9::uw0::uw1::uw2::uw3::[]), []⟩ V) :
    Code.wp Tryd.prog (sub [1, 1, 1, 1, 0, 1, 0, 0, 1, 0, 0, 1, 1, 1, 1, 1, 1, 1, 1, 1, 0] codeLP) (Exit.then K Q0) ⟨List.toArray (u0::u1::u2::u3::u4::u5::u6::u7::u8::u9::u10::u11::u12::u13::u14::u15::u16::u17::u18::u19::u20::u21::u22::u23::u24::u25::u26::u27::u28::u29::u30::u31::u32::u33::u34::u35::u36::u37::u38::u39::u40::u41::u42::u43::u44::u45::u46::u47::u48::u49::u50::u51::u52::u53::u54::u55::u56::u57::u58::u59::u60::u61::u62::u63::u64::u65::u66::u67::u68::u69::u70::u71::u72::u73::u74::u75::u76::u77::u78::u79::u80::u81::u82::u83::u84::u85::u86::u87::u88::u89::u90::u91::u92::u93::u94::u95::u96::u97::u98::u99::ua0::ua1::ua2::ua3::ua4::ua5::ua6::ua7::ua8::ua9::ub0::ub1::ub2::ub3::ub4::ub5::ub6::ub7::ub8::ub9::uc0::uc1::uc2::uc3::uc4::uc5::uc6::uc7::uc8::uc9::ud0::ud1::ud2::ud3::ud4::ud5::ud6::ud7::ud8::ud9::ue0::ue1::ue2::ue3::ue4::ue5::ue6::ue7::ue8::ue9::uf0::uf1::uf2::uf3::uf4::uf5::uf6::uf7::uf8::uf9::ug0::ug1::ug2::ug3::ug4::ug5::ug6::ug7::ug8::ug9::uh0::uh1::uh2::uh3::uh4::uh5::uh6::uh7::uh8::uh9::ui0::ui1::ui2::ui3::ui4::ui5::ui6::ui7::ui8::ui9::uj0::uj1::uj2::uj3::uj4::uj5::uj6::uj7::uj8::uj9::uk0::uk1::uk2::uk3::uk4::uk5::uk6::uk7::uk8::uk9::ul0::ul1::ul2::ul3::ul4::ul5::ul6::ul7::ul8::ul9::um0::um1::um2::um3::um4::um5::um6::um7::um8::um9::un0::un1::un2::un3::un4::un5::un6::un7::un8::un9::uo0::uo1::uo2::uo3::uo4::uo5::uo6::uo7::uo8::uo9::up0::up1::up2::up3::up4::up5::up6::up7::up8::up9::uq0::uq1::uq2::uq3::uq4::uq5::uq6::uq7::uq8::uq9::ur0::ur1::ur2::ur3::ur4::ur5::ur6::ur7::ur8::ur9::us0::us1::us2::us3::us4::us5::us6::us7::us8::us9::ut0::ut1::ut2::ut3::ut4::ut5::ut6::ut7::ut8::ut9::uu0::uu1::uu2::uu3::uu4::uu5::uu6::uu7::uu8::uu9::uv0::uv1::uv2::uv3::uv4::uv5::uv6::uv7::uv8::uv9::uw0::uw1::uw2::uw3::[]), []⟩ w := by
  have HK := Lib.hid hK
  clear hK
  conv => arg 2; whnf
  go_wp2_with fail
  exact HK.out _ _ _ rfl rfl
set_option maxRecDepth 100000 in
set_option maxHeartbeats 3200000 in
theorem lpKb {w0 w1 : World} {b hv p27 lg : Nat} {i : Nat} {lv : List Bool} {H : BH} {N : Bch} {S : Nat → Int} {A : Nat → Option Addr} {L : Nat → List It} {c : Nat → Nat} {k : Nat} {Ab : Option Addr} {cb : Nat} {w : World} (u0 u1 u2 u4 u6 u8 u9 u10 u11 u12 u13 u14 u15 u16 u17 u18 u19 u20 u21 u22 u23 u24 u25 u26 u28 u29 u30 u31 u32 u33 u34 u35 u36 u37 u38 u39 u40 u41 u42 u43 u44 u45 u46 u47 u48 u49 u50 u51 u52 u53 u54 u55 u56 u57 u58 u59 u60 u61 u62 u63 u64 u65 u66 u67 u68 u69 u70 u71 u72 u73 u74 u75 u76 u77 u78 u79 u80 u81 u82 u83 u84 u85 u86 u87 u88 u89 u90 u91 u92 u93 u94 u95 u96 u97 u98 u99 ua0 ua1 ua2 ua3 ua4 ua5 ua6 ua7 ua8 ua9 ub0 ub1 ub2 ub3 ub4 ub5 ub6 ub7 ub8 ub9 uc0 uc1 uc2 uc3 uc4 uc5 uc6 uc7 uc8 uc9 ud0 ud1 ud2 ud3 ud4 ud5 ud6 ud7 ud8 ud9 ue0 ue1 ue2 ue3 ue4 ue5 ue6 ue7 ue8 ue9 uf0 uf1 uf2 uf3 uf4 uf5 uf6 uf7 uf8 uf9 ug0 ug1 ug2 ug3 ug4 ug5 ug6 ug7 ug8 ug9 uh0 uh1 uh2 uh3 uh4 uh5 uh6 uh7 uh8 uh9 ui0 ui1 ui2 ui3 ui4 ui5 ui6 ui7 ui8 ui9 uj0 uj1 uj2 uj3 uj4 uj5 uj6 uj7 uj8 uj9 uk0 uk1 uk2 uk3 uk4 uk5 uk6 uk7 uk8 uk9 ul0 ul1 ul2 ul3 ul4 ul5 ul6 ul7 ul8 ul9 um0 um1 um2 um3 um4 um5 um6 um7 um8 um9 un0 un1 un2 un3 un4 un5 un6 un7 un8 un9 uo0 uo1 uo2 uo3 uo4 uo5 uo6 uo7 uo8 uo9 up0 up1 up2 up3 up4 up5 up6 up7 up8 up9 uq0 uq1 uq2 uq3 uq4 uq5 uq6 uq7 uq8 uq9 ur0 ur1 ur2 ur3 ur4 ur5 ur6 ur7 ur8 ur9 us1 us2 us3 us4 us5 us6 us7 us8 us9 ut0 ut1 ut2 ut3 ut4 ut5 ut6 ut7 ut8 ut9 uu0 uu1 uu2 uu3 uu4 uu5 uu6 uu7 uu8 uu9 uv0 uv1 uv2 uv3 uv4 uv5 uv6 uv7 uv8 uv9 uw0 uw1 uw2 uw3 : Value) (K : Act → World → Prop) (Q0 : Exit → Act → World → Prop) (hl4 : lv.length = 4) (hm : MI N S L i) (h : HvS w0 w1 b H N hv S A L c [(lg, Obj.cells ((lv.map Value.bool).toArray) 4 (0, 0))] []) (hp : w1.heap.size ≤ p27) (hI : (k ≤ 4 ∧ Below w1.heap.size w1 w ∧ w.heap[p27]? = some (.cells (List.toArray [.int .i64 (getTo N lv k).1, .slice Ab (getTo N lv k).2.length cb]) 29 (0, 0)) ∧ RdI w1 w1.heap.size Ab (getTo N lv k).2 ∧ (getTo N lv k).2.length ≤ cb))
    (hK : ∀ (v28 vs1 vs2 vs3 vs4 vs5 vs6 vs7 vs8 vs9 vt0 vt1 vt2 vt3 vt4 vt5 vt6 vt7 vt8 vt9 vu0 vu1 vu2 vu3 vu4 vu5 : Value) (Ab2 : Option Addr) (cb2 : Nat) (V : World), ((k + 1) ≤ 4 ∧ Below w1.heap.size w1 V ∧ V.heap[p27]? = some (.cells (List.toArray [.int .i64 (getTo N lv (k + 1)).1, .slice Ab2 (getTo N lv (k + 1)).2.length cb2]) 29 (0, 0)) ∧ RdI w1 w1.heap.size Ab2 (getTo N lv (k + 1)).2 ∧ (getTo N lv (k + 1)).2.length ≤ cb2) → 4 - (k + 1) < 4 - k → K ⟨List.toArray (u0::u1::u2::(.pointer (some ⟨b, 0, none⟩))::u4::(.pointer (some ⟨hv, 0, none⟩))::u6::(.slice (some ⟨lg, 0, none⟩) 4 4)::u8::u9::u10::u11::u12::u13::u14::u15::u16::u17::u18::u19::u20::u21::u22::u23::u24::u25::u26::(.pointer (some ⟨p27, 0, none⟩))::v28::u29::u30::u31::u32::u33::u34::u35::u36::u37::u38::u39::u40::u41::u42::u43::u44::u45::u46::u47::u48::u49::u50::u51::u52::u53::u54::u55::u56::u57::u58::u59::u60::u61::u62::u63::u64::u65::u66::u67::u68::u69::u70::u71::u72::u73::u74::u75::u76::u77::u78::u79::u80::u81::u82::u83::u84::u85::u86::u87::u88::u89::u90::u91::u92::u93::u94::u95::u96::u97::u98::u99::ua0::ua1::ua2::ua3::ua4::ua5::ua6::ua7::ua8::ua9::ub0::ub1::ub2::ub3::ub4::ub5::ub6::ub7::ub8::ub9::uc0::uc1::uc2::uc3::uc4::uc5::uc6::uc7::uc8::uc9::ud0::ud1::ud2::ud3::ud4::ud5::ud6::ud7::ud8::ud9::ue0::ue1::ue2::ue3::ue4::ue5::ue6::ue7::ue8::ue9::uf0::uf1::uf2::uf3::uf4::uf5::uf6::uf7::uf8::uf9::ug0::ug1::ug2::ug3::ug4::ug5::ug6::ug7::ug8::ug9::uh0::uh1::uh2::uh3::uh4::uh5::uh6::uh7::uh8::uh9::ui0::ui1::ui2::ui3::ui4::ui5::ui6::ui7::ui8::ui9::uj0::uj1::uj2::uj3::uj4::uj5::uj6::uj7::uj8::uj9::uk0::uk1::uk2::uk3::uk4::uk5::uk6::uk7::uk8::uk9::ul0::ul1::ul2::ul3::ul4::ul5::ul6::ul7::ul8::ul9::um0::um1::um2::um3::um4::um5::um6::um7::um8::um9::un0::un1::un2::un3::un4::un5::un6::un7::un8::un9::uo0::uo1::uo2::uo3::uo4::uo5::uo6::uo7::uo8::uo9::up0::up1::up2::up3::up4::up5::up6::up7::up8::up9::uq0::uq1::uq2::uq3::uq4::uq5::uq6::uq7::uq8::uq9::ur0::ur1::ur2::ur3::ur4::ur5::ur6::ur7::ur8::ur9::(.int .i64 (((k + 1) : Nat) : Int))::vs1::vs2::vs3::vs4::vs5::vs6::vs7::vs8::vs9::vt0::vt1::vt2::vt3::vt4::vt5::vt6::vt7::vt8::vt9::vu0::vu1::vu2::vu3::vu4::vu5::uu6::uu7::uu8::uu9::uv0::uv1::uv2::uv3::uv4::uv5::uv6::uv7::uv8::uv9::uw0::uw1::uw2::uw3::[]), []⟩ V)
    (hX : ∀ (v28 vs1 vs2 vs3 vs4 vs5 vs6 vs7 vs8 vs9 vt0 vt1 vt2 vt3 vt4 vt5 vt6 vt7 vt8 vt9 vu0 vu1 vu2 vu3 vu4 vu5 : Value), (k = 4) → Q0 (.exit 13) ⟨List.toArray (u0::u1::u2::(.pointer (some ⟨b, 0, none⟩))::u4::(.pointer (some ⟨hv, 0, none⟩))::u6::(.slice (some ⟨lg, 0, none⟩) 4 4)::u8::u9::u10::u11::u12::u13::u14::u15::u16::u17::u18::u19::u20::u21::u22::u23::u24::u25::u26::(.pointer (some ⟨p27, 0, none⟩))::v28::u29::u30::u31::u32::u33::u34::u35::u36::u37::u38::u39::u40::u41::u42::u43::u44::u45::u46::u47::u48::u49::u50::u51::u52::u53::u54::u55::u56::u57::u58::u59::u60::u61::u62::u63::u64::u65::u66::u67::u68::u69::u70::u71::u72::u73::u74::u75::u76::u77::u78::u79::u80::u81::u82::u83::u84::u85::u86::u87::u88::u89::u90::u91::u92::u93::u94::u95::u96::u97::u98::u99::ua0::ua1::ua2::ua3::ua4::ua5::ua6::ua7::ua8::ua9::ub0::ub1::ub2::ub3::ub4::ub5::ub6::ub7::ub8::ub9::uc0::uc1::uc2::uc3::uc4::uc5::uc6::uc7::uc8::uc9::ud0::ud1::ud2::ud3::ud4::ud5::ud6::ud7::ud8::ud9::ue0::ue1::ue2::ue3::ue4::ue5::ue6::ue7::ue8::ue9::uf0::uf1::uf2::uf3::uf4::uf5::uf6::uf7::uf8::uf9::ug0::ug1::ug2::ug3::ug4::ug5::ug6::ug7::ug8::ug9::uh0::uh1::uh2::uh3::uh4::uh5::uh6::uh7::uh8::uh9::ui0::ui1::ui2::ui3::ui4::ui5::ui6::ui7::ui8::ui9::uj0::uj1::uj2::uj3::uj4::uj5::uj6::uj7::uj8::uj9::uk0::uk1::uk2::uk3::uk4::uk5::uk6::uk7::uk8::uk9::ul0::ul1::ul2::ul3::ul4::ul5::ul6::ul7::ul8::ul9::um0::um1::um2::um3::um4::um5::um6::um7::um8::um9::un0::un1::un2::un3::un4::un5::un6::un7::un8::un9::uo0::uo1::uo2::uo3::uo4::uo5::uo6::uo7::uo8::uo9::up0::up1::up2::up3::up4::up5::up6::up7::up8::up9::uq0::uq1::uq2::uq3::uq4::uq5::uq6::uq7::uq8::uq9::ur0::ur1::ur2::ur3::ur4::ur5::ur6::ur7::ur8::ur9::(.int .i64 ((k : Nat) : Int))::vs1::vs2::vs3::vs4::vs5::vs6::vs7::vs8::vs9::vt0::vt1::vt2::vt3::vt4::vt5::vt6::vt7::vt8::vt9::vu0::vu1::vu2::vu3::vu4::vu5::uu6::uu7::uu8::uu9::uv0::uv1::uv2::uv3::uv4::uv5::uv6::uv7::uv8::uv9::uw0::uw1::uw2::uw3::[]), []⟩ w) :
    Code.wp Tryd.prog (sub [1, 1, 1, 1, 0, 1, 0, 0, 1, 0, 0, 1, 1, 1, 1, 1, 1, 1, 1, 1, 1, 0, 1, 0, 0] codeLP) (Exit.then K Q0) ⟨List.toArray (u0::u1::u2::(.pointer (some ⟨b, 0, none⟩))::u4::(.pointer (some ⟨hv, 0, none⟩))::u6::(.slice (some ⟨lg, 0, none⟩) 4 4)::u8::u9::u10::u11::u12::u13::u14::u15::u16::u17::u18::u19::u20::u21::u22::u23::u24::u25::u26::(.pointer (some ⟨p27, 0, none⟩))::u28::u29::u30::u31::u32::u33::u34::u35::u36::u37::u38::u39::u40::u41::u42::u43::u44::u45::u46::u47::u48::u49::u50::u51::u52::u53::u54::u55::u56::u57::u58::u59::u60::u61::u62::u63::u64::u65::u66::u67::u68::u69::u70::u71::u72::u73::u74::u75::u76::u77::u78::u79::u80::u81::u82::u83::u84::u85::u86::u87::u88::u89::u90::u91::u92::u93::u94::u95::u96::u97::u98::u99::ua0::ua1::ua2::ua3::ua4::ua5::ua6::ua7::ua8::ua9::ub0::ub1::ub2::ub3::ub4::ub5::ub6::ub7::ub8::ub9::uc0::uc1::uc2::uc3::uc4::uc5::uc6::uc7::uc8::uc9::ud0::ud1::ud2::ud3::ud4::ud5::ud6::ud7::ud8::ud9::ue0::ue1::ue2::ue3::ue4::ue5::ue6::ue7::ue8::ue9::uf0::uf1::uf2::uf3::uf4::uf5::uf6::uf7::uf8::uf9::ug0::ug1::ug2::ug3::ug4::ug5::ug6::ug7::ug8::ug9::uh0::uh1::uh2::uh3::uh4::uh5::uh6::uh7::uh8::uh9::ui0::ui1::ui2::ui3::ui4::ui5::ui6::ui7::ui8::ui9::uj0::uj1::uj2::uj3::uj4::uj5::uj6::uj7::uj8::uj9::uk0::uk1::uk2::uk3::uk4::uk5::uk6::uk7::uk8::uk9::ul0::ul1::ul2::ul3::ul4::ul5::ul6::ul7::ul8::ul9::um0::um1::um2::um3::um4::um5::um6::um7::um8::um9::un0::un1::un2::un3::un4::un5::un6::un7::un8::un9::uo0::uo1::uo2::uo3::uo4::uo5::uo6::uo7::uo8::uo9::up0::up1::up2::up3::up4::up5::up6::up7::up8::up9::uq0::uq1::uq2::uq3::uq4::uq5::uq6::uq7::uq8::uq9::ur0::ur1::ur2::ur3::ur4::ur5::ur6::ur7::ur8::ur9::(.int .i64 ((k : Nat) : Int))::us1::us2::us3::us4::us5::us6::us7::us8::us9::ut0::ut1::ut2::ut3::ut4::ut5::ut6::ut7::ut8::ut9::uu0::uu1::uu2::uu3::uu4::uu5::uu6::uu7::uu8::uu9::uv0::uv1::uv2::uv3::uv4::uv5::uv6::uv7::uv8::uv9::uw0::uw1::uw2::uw3::[]), []⟩ w := by
  have HK := Lib.hid hK
  have HX := Lib.hid hX
  clear hK hX
  conv => arg 2; whnf
  obtain ⟨hk, hBw, hb, hr, hcp⟩ := hI
  by_cases hlt : k < 4
  · have hB := Below.refl w.heap.size w
    have HH := Lib.hid (h.below hBw.drew)
    have HBw := Lib.hid hBw
    have HBx := Lib.hid (show w.drew.heap[p27]? = some _ from hb)
    have HR := Lib.hid hr
    have hcl := (HH.out.lrow (List.mem_cons_self ..) hl4).2 k hlt
    have hs := HH.out.s hlt
    have hi := HH.out.i hlt
    have hb0 := cell_of_row _ _ 0 _ _ _ HBx.out
    have hb1 := cell_of_row _ _ 1 _ _ _ HBx.out
    have hz1 : w.drew.frozen? ⟨p27, 0, none⟩ = false := frozen_of_row w.drew p27 0 _ _ HBx.out
    have hz2 : w.drew.frozen? ⟨p27, 1, none⟩ = false := frozen_of_row w.drew p27 1 _ _ HBx.out
    have CF := Lib.hid (fun V (hV : Below w.heap.size w V) => by
      have := bp_failed w0 V b H N (h.below (hBw.trans (hV.mono hBw.size))).kr.kx.bp (k : Int) ⟨by omega, by omega⟩
      rw [failed_D hm.n hlt] at this
      exact this)
    have hlive : liveD N.n lv (k : Int) = lv.getD k false := by rw [hm.n]; exact live4 lv hlt
    have heq := hm.eq k hlt
    have Hno := Lib.hid (fun q => getTo_live (N := N) (lv := lv) (d := k) (hlive.trans q))
    have Hf := Lib.hid (show (N.D k).f = true → getTo N lv (k + 1) = getTo N lv k from fun q => getTo_none (onS_f hm.good.dn q).2.2)
    have Hle := Lib.hid (show ¬ (getTo N lv k).1 < S k → getTo N lv (k + 1) = getTo N lv k from fun q => getTo_less (by rw [← heq.1]; exact q))
    have Hye := Lib.hid (show lv.getD k false = true → (getTo N lv k).1 < S k → getTo N lv (k + 1) = (S k, L k) from fun q1 q2 => by
      have h0 := (getTo_le N lv k).1
      rw [heq.1, heq.2]
      exact getTo_yes (hlive.trans q1) (by rw [onB_pos, ← heq.1]; exact decide_eq_true (by omega)) (by rw [← heq.1]; exact q2))
    have HIt := Lib.hid ((h.itA hlt).rdI)
    have HPz := Lib.hid hp
    have HIc := Lib.hid (HH.out.cp k hlt)
    have k0 : (0 : Int) ≤ (k : Int) := by omega
    have k1 : (k : Int) < 4 := by omega
    clear hBw hb hr HX hm hl4 hlive heq hB h hp
    generalize hg1 : (getTo N lv k).1 = gs at hb0 Hle Hye HBx
    generalize hg2 : (getTo N lv k).2 = gl at hb1 HR hcp HBx
    generalize (N.D k).f = fl at CF Hf
    cases hx : lv.getD k false with
    | false =>
      rw [hx] at hcl
      have He := Lib.hid (Hno.out hx)
      clear hx Hno Hf Hle Hye CF
      go_wp2_with fail
      refine wp_region_noPanic (region_ord 19 [] (fun V => V = w.drew) (by kernel_rfl) (by kernel_rfl) (fun _ _ _ _ _ h => h) fun R => ?_)
      change anyI _ _ _ _ _ _ 19 _ _ w.drew
      have HS0 := Lib.hid (show (fun V => V = w.drew) w.drew from rfl)
      refine' anyI_take R 0 rfl (v := ?_) (by kernel_rfl) (by rfl) (fun V hV => ?hy) HS0.out ?_
      case hy => ((try dsimp only at hV);  subst hV; go_simp; try with_reducible rfl)
      try simp only [Act.put, List.getElem_toArray, List.getElem_cons_succ, List.getElem_cons_zero, List.setIfInBounds_toArray, List.set_cons_zero, List.set_cons_succ]
      refine' anyI_take R 1 rfl (v := ?_) (by kernel_rfl) (by rfl) (fun V hV => ?hy) HS0.out ?_
      case hy => ((try dsimp only at hV);  subst hV; go_simp; try with_reducible rfl)
      try simp only [Act.put, List.getElem_toArray, List.getElem_cons_succ, List.getElem_cons_zero, List.setIfInBounds_toArray, List.set_cons_zero, List.set_cons_succ]
      refine' anyI_take R 2 rfl (v := ?_) (by kernel_rfl) (by rfl) (fun V hV => ?hy) HS0.out ?_
      case hy => ((try dsimp only at hV);  subst hV; go_simp; try with_reducible rfl)
      try simp only [Act.put, List.getElem_toArray, List.getElem_cons_succ, List.getElem_cons_zero, List.setIfInBounds_toArray, List.set_cons_zero, List.set_cons_succ]
      refine' anyI_take R 3 rfl (v := ?_) (by kernel_rfl) (by rfl) (fun V hV => ?hy) HS0.out ?_
      case hy => ((try dsimp only at hV);  subst hV; go_simp; try with_reducible rfl)
      try simp only [Act.put, List.getElem_toArray, List.getElem_cons_succ, List.getElem_cons_zero, List.setIfInBounds_toArray, List.set_cons_zero, List.set_cons_succ]
      refine' anyI_take R 4 rfl (v := ?_) (by kernel_rfl) (by rfl) (fun V hV => ?hy) HS0.out ?_
      case hy => ((try dsimp only at hV);  subst hV; go_simp; try with_reducible rfl)
      try simp only [Act.put, List.getElem_toArray, List.getElem_cons_succ, List.getElem_cons_zero, List.setIfInBounds_toArray, List.set_cons_zero, List.set_cons_succ]
      refine anyI_skip R 5 rfl (by kernel_rfl) (by rfl) HS0.out ?_
      try simp only [Act.put, List.getElem_toArray, List.getElem_cons_succ, List.getElem_cons_zero, List.setIfInBounds_toArray, List.set_cons_zero, List.set_cons_succ]
      refine anyI_skip R 6 rfl (by kernel_rfl) (by rfl) HS0.out ?_
      try simp only [Act.put, List.getElem_toArray, List.getElem_cons_succ, List.getElem_cons_zero, List.setIfInBounds_toArray, List.set_cons_zero, List.set_cons_succ]
      refine anyI_skip R 7 rfl (by kernel_rfl) (by rfl) HS0.out ?_
      try simp only [Act.put, List.getElem_toArray, List.getElem_cons_succ, List.getElem_cons_zero, List.setIfInBounds_toArray, List.set_cons_zero, List.set_cons_succ]
      refine anyI_skip R 8 rfl (by kernel_rfl) (by rfl) HS0.out ?_
      try simp only [Act.put, List.getElem_toArray, List.getElem_cons_succ, List.getElem_cons_zero, List.setIfInBounds_toArray, List.set_cons_zero, List.set_cons_succ]
      refine' anyI_take R 9 rfl (v := ?_) (by kernel_rfl) (by rfl) (fun V hV => ?hy) HS0.out ?_
      case hy => ((try dsimp only at hV);  subst hV; go_simp; try with_reducible rfl)
      try simp only [Act.put, List.getElem_toArray, List.getElem_cons_succ, List.getElem_cons_zero, List.setIfInBounds_toArray, List.set_cons_zero, List.set_cons_succ]
      refine' anyI_take R 10 rfl (v := ?_) (by kernel_rfl) (by rfl) (fun V hV => ?hy) HS0.out ?_
      case hy => ((try dsimp only at hV);  subst hV; go_simp; try with_reducible rfl)
      try simp only [Act.put, List.getElem_toArray, List.getElem_cons_succ, List.getElem_cons_zero, List.setIfInBounds_toArray, List.set_cons_zero, List.set_cons_succ]
      refine anyI_skip R 11 rfl (by kernel_rfl) (by rfl) HS0.out ?_
      try simp only [Act.put, List.getElem_toArray, List.getElem_cons_succ, List.getElem_cons_zero, List.setIfInBounds_toArray, List.set_cons_zero, List.set_cons_succ]
      refine anyI_skip R 12 rfl (by kernel_rfl) (by rfl) HS0.out ?_
      try simp only [Act.put, List.getElem_toArray, List.getElem_cons_succ, List.getElem_cons_zero, List.setIfInBounds_toArray, List.set_cons_zero, List.set_cons_succ]
      refine anyI_skip R 13 rfl (by kernel_rfl) (by rfl) HS0.out ?_
      try simp only [Act.put, List.getElem_toArray, List.getElem_cons_succ, List.getElem_cons_zero, List.setIfInBounds_toArray, List.set_cons_zero, List.set_cons_succ]
      refine anyI_skip R 14 rfl (by kernel_rfl) (by rfl) HS0.out ?_
      try simp only [Act.put, List.getElem_toArray, List.getElem_cons_succ, List.getElem_cons_zero, List.setIfInBounds_toArray, List.set_cons_zero, List.set_cons_succ]
      refine anyI_skip R 15 rfl (by kernel_rfl) (by rfl) HS0.out ?_
      try simp only [Act.put, List.getElem_toArray, List.getElem_cons_succ, List.getElem_cons_zero, List.setIfInBounds_toArray, List.set_cons_zero, List.set_cons_succ]
      refine anyI_skip R 16 rfl (by kernel_rfl) (by rfl) HS0.out ?_
      try simp only [Act.put, List.getElem_toArray, List.getElem_cons_succ, List.getElem_cons_zero, List.setIfInBounds_toArray, List.set_cons_zero, List.set_cons_succ]
      refine anyI_skip R 17 rfl (by kernel_rfl) (by rfl) HS0.out ?_
      try simp only [Act.put, List.getElem_toArray, List.getElem_cons_succ, List.getElem_cons_zero, List.setIfInBounds_toArray, List.set_cons_zero, List.set_cons_succ]
      refine' anyI_take R 18 rfl (v := ?_) (by kernel_rfl) (by rfl) (fun V hV => ?hy) HS0.out ?_
      case hy => ((try dsimp only at hV);  subst hV; go_simp; try with_reducible rfl)
      try simp only [Act.put, List.getElem_toArray, List.getElem_cons_succ, List.getElem_cons_zero, List.setIfInBounds_toArray, List.set_cons_zero, List.set_cons_succ]
      refine anyI_tail (by kernel_rfl) ?_
      try simp only [List.drop_succ_cons, List.drop_zero]
      clear R
      go_wp2_with fail
      refine NoPanic.normal ?_
      go_wp2_with fail
      exact HK.out _ _ _ _ _ _ _ _ _ _ _ _ _ _ _ _ _ _ _ _ _ _ _ _ _ _ Ab cb _ ⟨by omega, HBw.out.drew, by rw [He.out, hg1, hg2]; exact HBx.out, by rw [He.out, hg2]; exact HR.out, by rw [He.out, hg2]; exact hcp⟩ (by omega)
    | true =>
      rw [hx] at hcl
      cases fl with
      | true =>
        have He := Lib.hid (Hf.out rfl)
        clear hx Hno Hf Hle Hye
        go_wp2_with fail
        refine wp_region_noPanic (region_ord 19 [] (fun V => V = w.drew) (by kernel_rfl) (by kernel_rfl) (fun _ _ _ _ _ h => h) fun R => ?_)
        change anyI _ _ _ _ _ _ 19 _ _ w.drew
        have HS0 := Lib.hid (show (fun V => V = w.drew) w.drew from rfl)
        refine' anyI_take R 0 rfl (v := ?_) (by kernel_rfl) (by rfl) (fun V hV => ?hy) HS0.out ?_
        case hy => ((try dsimp only at hV);  subst hV; go_simp; try with_reducible rfl)
        try simp only [Act.put, List.getElem_toArray, List.getElem_cons_succ, List.getElem_cons_zero, List.setIfInBounds_toArray, List.set_cons_zero, List.set_cons_succ]
        refine' anyI_take R 1 rfl (v := ?_) (by kernel_rfl) (by rfl) (fun V hV => ?hy) HS0.out ?_
        case hy => ((try dsimp only at hV);  subst hV; go_simp; try with_reducible rfl)
        try simp only [Act.put, List.getElem_toArray, List.getElem_cons_succ, List.getElem_cons_zero, List.setIfInBounds_toArray, List.set_cons_zero, List.set_cons_succ]
        refine' anyI_take R 2 rfl (v := ?_) (by kernel_rfl) (by rfl) (fun V hV => ?hy) HS0.out ?_
        case hy => ((try dsimp only at hV);  subst hV; go_simp; try with_reducible rfl)
        try simp only [Act.put, List.getElem_toArray, List.getElem_cons_succ, List.getElem_cons_zero, List.setIfInBounds_toArray, List.set_cons_zero, List.set_cons_succ]
        refine' anyI_take R 3 rfl (v := ?_) (by kernel_rfl) (by rfl) (fun V hV => ?hy) HS0.out ?_
        case hy => ((try dsimp only at hV);  subst hV; go_simp; try with_reducible rfl)
        try simp only [Act.put, List.getElem_toArray, List.getElem_cons_succ, List.getElem_cons_zero, List.setIfInBounds_toArray, List.set_cons_zero, List.set_cons_succ]
        refine' anyI_take R 4 rfl (v := ?_) (by kernel_rfl) (by rfl) (fun V hV => ?hy) HS0.out ?_
        case hy => ((try dsimp only at hV);  subst hV; go_simp; try with_reducible rfl)
        try simp only [Act.put, List.getElem_toArray, List.getElem_cons_succ, List.getElem_cons_zero, List.setIfInBounds_toArray, List.set_cons_zero, List.set_cons_succ]
        refine' anyI_take R 5 rfl (v := ?_) (by kernel_rfl) (by rfl) (fun V hV => ?hy) HS0.out ?_
        case hy => ((try dsimp only at hV);  subst hV; go_simp; try with_reducible rfl)
        try simp only [Act.put, List.getElem_toArray, List.getElem_cons_succ, List.getElem_cons_zero, List.setIfInBounds_toArray, List.set_cons_zero, List.set_cons_succ]
        refine' anyI_take R 6 rfl (v := ?_) (by kernel_rfl) (by rfl) (fun V hV => ?hy) HS0.out ?_
        case hy => ((try dsimp only at hV);  subst hV; go_simp; try with_reducible rfl)
        try simp only [Act.put, List.getElem_toArray, List.getElem_cons_succ, List.getElem_cons_zero, List.setIfInBounds_toArray, List.set_cons_zero, List.set_cons_succ]
        refine anyI_one 7 (by kernel_rfl) rfl ?_
        try simp only [List.getElem_toArray, List.getElem_cons_succ, List.getElem_cons_zero]
        refine opE_step ?_
        rw [if_pos (by rfl)]
        go_simp
        go_at_call 25
        refine (CF.out w.drew (Below.refl _ _).drew).mono ?_
        rintro e wf ⟨rfl, hwf⟩
        obtain rfl : w.drew = wf := hwf.symm
        try dsimp only
        refine ⟨HS0.out, ?_⟩
        try simp only [Act.put, List.getElem_toArray, List.getElem_cons_succ, List.getElem_cons_zero, List.setIfInBounds_toArray, List.set_cons_zero, List.set_cons_succ]
        refine' anyI_take R 8 rfl (v := ?_) (by kernel_rfl) (by rfl) (fun V hV => ?hy) HS0.out ?_
        case hy => ((try dsimp only at hV);  subst hV; go_simp; try with_reducible rfl)
        try simp only [Act.put, List.getElem_toArray, List.getElem_cons_succ, List.getElem_cons_zero, List.setIfInBounds_toArray, List.set_cons_zero, List.set_cons_succ]
        refine' anyI_take R 9 rfl (v := ?_) (by kernel_rfl) (by rfl) (fun V hV => ?hy) HS0.out ?_
        case hy => ((try dsimp only at hV);  subst hV; go_simp; try with_reducible rfl)
        try simp only [Act.put, List.getElem_toArray, List.getElem_cons_succ, List.getElem_cons_zero, List.setIfInBounds_toArray, List.set_cons_zero, List.set_cons_succ]
        refine' anyI_take R 10 rfl (v := ?_) (by kernel_rfl) (by rfl) (fun V hV => ?hy) HS0.out ?_
        case hy => ((try dsimp only at hV);  subst hV; go_simp; try with_reducible rfl)
        try simp only [Act.put, List.getElem_toArray, List.getElem_cons_succ, List.getElem_cons_zero, List.setIfInBounds_toArray, List.set_cons_zero, List.set_cons_succ]
        refine anyI_skip R 11 rfl (by kernel_rfl) (by rfl) HS0.out ?_
        try simp only [Act.put, List.getElem_toArray, List.getElem_cons_succ, List.getElem_cons_zero, List.setIfInBounds_toArray, List.set_cons_zero, List.set_cons_succ]
        refine anyI_skip R 12 rfl (by kernel_rfl) (by rfl) HS0.out ?_
        try simp only [Act.put, List.getElem_toArray, List.getElem_cons_succ, List.getElem_cons_zero, List.setIfInBounds_toArray, List.set_cons_zero, List.set_cons_succ]
        refine anyI_skip R 13 rfl (by kernel_rfl) (by rfl) HS0.out ?_
        try simp only [Act.put, List.getElem_toArray, List.getElem_cons_succ, List.getElem_cons_zero, List.setIfInBounds_toArray, List.set_cons_zero, List.set_cons_succ]
        refine anyI_skip R 14 rfl (by kernel_rfl) (by rfl) HS0.out ?_
        try simp only [Act.put, List.getElem_toArray, List.getElem_cons_succ, List.getElem_cons_zero, List.setIfInBounds_toArray, List.set_cons_zero, List.set_cons_succ]
        refine anyI_skip R 15 rfl (by kernel_rfl) (by rfl) HS0.out ?_
        try simp only [Act.put, List.getElem_toArray, List.getElem_cons_succ, List.getElem_cons_zero, List.setIfInBounds_toArray, List.set_cons_zero, List.set_cons_succ]
        refine anyI_skip R 16 rfl (by kernel_rfl) (by rfl) HS0.out ?_
        try simp only [Act.put, List.getElem_toArray, List.getElem_cons_succ, List.getElem_cons_zero, List.setIfInBounds_toArray, List.set_cons_zero, List.set_cons_succ]
        refine anyI_skip R 17 rfl (by kernel_rfl) (by rfl) HS0.out ?_
        try simp only [Act.put, List.getElem_toArray, List.getElem_cons_succ, List.getElem_cons_zero, List.setIfInBounds_toArray, List.set_cons_zero, List.set_cons_succ]
        refine' anyI_take R 18 rfl (v := ?_) (by kernel_rfl) (by rfl) (fun V hV => ?hy) HS0.out ?_
        case hy => ((try dsimp only at hV);  subst hV; go_simp; try with_reducible rfl)
        try simp only [Act.put, List.getElem_toArray, List.getElem_cons_succ, List.getElem_cons_zero, List.setIfInBounds_toArray, List.set_cons_zero, List.set_cons_succ]
        refine anyI_tail (by kernel_rfl) ?_
        try simp only [List.drop_succ_cons, List.drop_zero]
        clear R
        go_wp2_with fail
        refine NoPanic.normal ?_
        go_wp2_with fail
        exact HK.out _ _ _ _ _ _ _ _ _ _ _ _ _ _ _ _ _ _ _ _ _ _ _ _ _ _ Ab cb _ ⟨by omega, HBw.out.drew, by rw [He.out, hg1, hg2]; exact HBx.out, by rw [He.out, hg2]; exact HR.out, by rw [He.out, hg2]; exact hcp⟩ (by omega)
      | false =>
        by_cases hgt : gs < S k
        · have He := Lib.hid (Hye.out hx hgt)
          clear hx Hno Hf Hle Hye
          go_wp2_with fail
          refine wp_region_noPanic (region_ord 19 [] (fun V => V = w.drew) (by kernel_rfl) (by kernel_rfl) (fun _ _ _ _ _ h => h) fun R => ?_)
          change anyI _ _ _ _ _ _ 19 _ _ w.drew
          have HS0 := Lib.hid (show (fun V => V = w.drew) w.drew from rfl)
          refine' anyI_take R 0 rfl (v := ?_) (by kernel_rfl) (by rfl) (fun V hV => ?hy) HS0.out ?_
          case hy => ((try dsimp only at hV);  subst hV; go_simp; try with_reducible rfl)
          try simp only [Act.put, List.getElem_toArray, List.getElem_cons_succ, List.getElem_cons_zero, List.setIfInBounds_toArray, List.set_cons_zero, List.set_cons_succ]
          refine' anyI_take R 1 rfl (v := ?_) (by kernel_rfl) (by rfl) (fun V hV => ?hy) HS0.out ?_
          case hy => ((try dsimp only at hV);  subst hV; go_simp; try with_reducible rfl)
          try simp only [Act.put, List.getElem_toArray, List.getElem_cons_succ, List.getElem_cons_zero, List.setIfInBounds_toArray, List.set_cons_zero, List.set_cons_succ]
          refine' anyI_take R 2 rfl (v := ?_) (by kernel_rfl) (by rfl) (fun V hV => ?hy) HS0.out ?_
          case hy => ((try dsimp only at hV);  subst hV; go_simp; try with_reducible rfl)
          try simp only [Act.put, List.getElem_toArray, List.getElem_cons_succ, List.getElem_cons_zero, List.setIfInBounds_toArray, List.set_cons_zero, List.set_cons_succ]
          refine' anyI_take R 3 rfl (v := ?_) (by kernel_rfl) (by rfl) (fun V hV => ?hy) HS0.out ?_
          case hy => ((try dsimp only at hV);  subst hV; go_simp; try with_reducible rfl)
          try simp only [Act.put, List.getElem_toArray, List.getElem_cons_succ, List.getElem_cons_zero, List.setIfInBounds_toArray, List.set_cons_zero, List.set_cons_succ]
          refine' anyI_take R 4 rfl (v := ?_) (by kernel_rfl) (by rfl) (fun V hV => ?hy) HS0.out ?_
          case hy => ((try dsimp only at hV);  subst hV; go_simp; try with_reducible rfl)
          try simp only [Act.put, List.getElem_toArray, List.getElem_cons_succ, List.getElem_cons_zero, List.setIfInBounds_toArray, List.set_cons_zero, List.set_cons_succ]
          refine' anyI_take R 5 rfl (v := ?_) (by kernel_rfl) (by rfl) (fun V hV => ?hy) HS0.out ?_
          case hy => ((try dsimp only at hV);  subst hV; go_simp; try with_reducible rfl)
          try simp only [Act.put, List.getElem_toArray, List.getElem_cons_succ, List.getElem_cons_zero, List.setIfInBounds_toArray, List.set_cons_zero, List.set_cons_succ]
          refine' anyI_take R 6 rfl (v := ?_) (by kernel_rfl) (by rfl) (fun V hV => ?hy) HS0.out ?_
          case hy => ((try dsimp only at hV);  subst hV; go_simp; try with_reducible rfl)
          try simp only [Act.put, List.getElem_toArray, List.getElem_cons_succ, List.getElem_cons_zero, List.setIfInBounds_toArray, List.set_cons_zero, List.set_cons_succ]
          refine anyI_one 7 (by kernel_rfl) rfl ?_
          try simp only [List.getElem_toArray, List.getElem_cons_succ, List.getElem_cons_zero]
          refine opE_step ?_
          rw [if_pos (by rfl)]
          go_simp
          go_at_call 25
          refine (CF.out w.drew (Below.refl _ _).drew).mono ?_
          rintro e wf ⟨rfl, hwf⟩
          obtain rfl : w.drew = wf := hwf.symm
          try dsimp only
          refine ⟨HS0.out, ?_⟩
          try simp only [Act.put, List.getElem_toArray, List.getElem_cons_succ, List.getElem_cons_zero, List.setIfInBounds_toArray, List.set_cons_zero, List.set_cons_succ]
          refine' anyI_take R 8 rfl (v := ?_) (by kernel_rfl) (by rfl) (fun V hV => ?hy) HS0.out ?_
          case hy => ((try dsimp only at hV);  subst hV; go_simp; try with_reducible rfl)
          try simp only [Act.put, List.getElem_toArray, List.getElem_cons_succ, List.getElem_cons_zero, List.setIfInBounds_toArray, List.set_cons_zero, List.set_cons_succ]
          refine' anyI_take R 9 rfl (v := ?_) (by kernel_rfl) (by rfl) (fun V hV => ?hy) HS0.out ?_
          case hy => ((try dsimp only at hV);  subst hV; go_simp; try with_reducible rfl)
          try simp only [Act.put, List.getElem_toArray, List.getElem_cons_succ, List.getElem_cons_zero, List.setIfInBounds_toArray, List.set_cons_zero, List.set_cons_succ]
          refine' anyI_take R 10 rfl (v := ?_) (by kernel_rfl) (by rfl) (fun V hV => ?hy) HS0.out ?_
          case hy => ((try dsimp only at hV);  subst hV; go_simp; try with_reducible rfl)
          try simp only [Act.put, List.getElem_toArray, List.getElem_cons_succ, List.getElem_cons_zero, List.setIfInBounds_toArray, List.set_cons_zero, List.set_cons_succ]
          refine' anyI_take R 11 rfl (v := ?_) (by kernel_rfl) (by rfl) (fun V hV => ?hy) HS0.out ?_
          case hy => ((try dsimp only at hV);  subst hV; go_simp; try with_reducible rfl)
          try simp only [Act.put, List.getElem_toArray, List.getElem_cons_succ, List.getElem_cons_zero, List.setIfInBounds_toArray, List.set_cons_zero, List.set_cons_succ]
          refine' anyI_take R 12 rfl (v := ?_) (by kernel_rfl) (by rfl) (fun V hV => ?hy) HS0.out ?_
          case hy => ((try dsimp only at hV);  subst hV; go_simp; try with_reducible rfl)
          try simp only [Act.put, List.getElem_toArray, List.getElem_cons_succ, List.getElem_cons_zero, List.setIfInBounds_toArray, List.set_cons_zero, List.set_cons_succ]
          refine' anyI_take R 13 rfl (v := ?_) (by kernel_rfl) (by rfl) (fun V hV => ?hy) HS0.out ?_
          case hy => ((try dsimp only at hV);  subst hV; go_simp; try with_reducible rfl)
          try simp only [Act.put, List.getElem_toArray, List.getElem_cons_succ, List.getElem_cons_zero, List.setIfInBounds_toArray, List.set_cons_zero, List.set_cons_succ]
          refine' anyI_take R 14 rfl (v := ?_) (by kernel_rfl) (by rfl) (fun V hV => ?hy) HS0.out ?_
          case hy => ((try dsimp only at hV);  subst hV; go_simp; try with_reducible rfl)
          try simp only [Act.put, List.getElem_toArray, List.getElem_cons_succ, List.getElem_cons_zero, List.setIfInBounds_toArray, List.set_cons_zero, List.set_cons_succ]
          refine' anyI_take R 15 rfl (v := ?_) (by kernel_rfl) (by rfl) (fun V hV => ?hy) HS0.out ?_
          case hy => ((try dsimp only at hV);  subst hV; go_simp; try with_reducible rfl)
          try simp only [Act.put, List.getElem_toArray, List.getElem_cons_succ, List.getElem_cons_zero, List.setIfInBounds_toArray, List.set_cons_zero, List.set_cons_succ]
          refine' anyI_take R 16 rfl (v := ?_) (by kernel_rfl) (by rfl) (fun V hV => ?hy) HS0.out ?_
          case hy => ((try dsimp only at hV);  subst hV; go_simp; try with_reducible rfl)
          try simp only [Act.put, List.getElem_toArray, List.getElem_cons_succ, List.getElem_cons_zero, List.setIfInBounds_toArray, List.set_cons_zero, List.set_cons_succ]
          refine' anyI_take R 17 rfl (v := ?_) (by kernel_rfl) (by rfl) (fun V hV => ?hy) HS0.out ?_
          case hy => ((try dsimp only at hV);  subst hV; go_simp; try with_reducible rfl)
          try simp only [Act.put, List.getElem_toArray, List.getElem_cons_succ, List.getElem_cons_zero, List.setIfInBounds_toArray, List.set_cons_zero, List.set_cons_succ]
          refine' anyI_take R 18 rfl (v := ?_) (by kernel_rfl) (by rfl) (fun V hV => ?hy) HS0.out ?_
          case hy => ((try dsimp only at hV);  subst hV; go_simp; try with_reducible rfl)
          try simp only [Act.put, List.getElem_toArray, List.getElem_cons_succ, List.getElem_cons_zero, List.setIfInBounds_toArray, List.set_cons_zero, List.set_cons_succ]
          refine anyI_tail (by kernel_rfl) ?_
          try simp only [List.drop_succ_cons, List.drop_zero]
          clear R
          go_wp2_with fail
          refine NoPanic.normal ?_
          go_wp2_with ((with_reducible refine (id ?_ : wpList _ _ _ (⟨none, _, _, _, _, _⟩::_) _ _)); refine wpList_store_blk rfl 29 _ _ (by rfl) p27 0 (.agg #[.int .i64 (S k), .slice (A k) (L k).length (c k)]) (by rfl) (by rfl) [.int .i64 gs, .slice Ab gl.length cb] 29 HBx.out [.int .i64 (S k), .slice (A k) (L k).length (c k)] rfl 2 rfl (by kernel_rfl) (Nat.le_refl 2) (fun u hu => by simp only [List.mem_cons, List.not_mem_nil, or_false] at hu; rcases hu with rfl | rfl <;> rfl) [.int .i64 (S k), .slice (A k) (L k).length (c k)] (by rfl) ?_; intro w9 h9 g9)
          have HH2 := Lib.hid (HBw.out.drew.grown g9 HBw.out.drew.size (fun j e => by injection e with e; have := HPz.out; omega))
          exact HK.out _ _ _ _ _ _ _ _ _ _ _ _ _ _ _ _ _ _ _ _ _ _ _ _ _ _ (A k) (c k) _ ⟨by omega, HH2.out, by rw [He.out]; exact h9, by rw [He.out]; exact HIt.out, by rw [He.out]; exact HIc.out⟩ (by omega)
        · have He := Lib.hid (Hle.out hgt)
          clear hx Hno Hf Hle Hye
          go_wp2_with fail
          refine wp_region_noPanic (region_ord 19 [] (fun V => V = w.drew) (by kernel_rfl) (by kernel_rfl) (fun _ _ _ _ _ h => h) fun R => ?_)
          change anyI _ _ _ _ _ _ 19 _ _ w.drew
          have HS0 := Lib.hid (show (fun V => V = w.drew) w.drew from rfl)
          refine' anyI_take R 0 rfl (v := ?_) (by kernel_rfl) (by rfl) (fun V hV => ?hy) HS0.out ?_
          case hy => ((try dsimp only at hV);  subst hV; go_simp; try with_reducible rfl)
          try simp only [Act.put, List.getElem_toArray, List.getElem_cons_succ, List.getElem_cons_zero, List.setIfInBounds_toArray, List.set_cons_zero, List.set_cons_succ]
          refine' anyI_take R 1 rfl (v := ?_) (by kernel_rfl) (by rfl) (fun V hV => ?hy) HS0.out ?_
          case hy => ((try dsimp only at hV);  subst hV; go_simp; try with_reducible rfl)
          try simp only [Act.put, List.getElem_toArray, List.getElem_cons_succ, List.getElem_cons_zero, List.setIfInBounds_toArray, List.set_cons_zero, List.set_cons_succ]
          refine' anyI_take R 2 rfl (v := ?_) (by kernel_rfl) (by rfl) (fun V hV => ?hy) HS0.out ?_
          case hy => ((try dsimp only at hV);  subst hV; go_simp; try with_reducible rfl)
          try simp only [Act.put, List.getElem_toArray, List.getElem_cons_succ, List.getElem_cons_zero, List.setIfInBounds_toArray, List.set_cons_zero, List.set_cons_succ]
          refine' anyI_take R 3 rfl (v := ?_) (by kernel_rfl) (by rfl) (fun V hV => ?hy) HS0.out ?_
          case hy => ((try dsimp only at hV);  subst hV; go_simp; try with_reducible rfl)
          try simp only [Act.put, List.getElem_toArray, List.getElem_cons_succ, List.getElem_cons_zero, List.setIfInBounds_toArray, List.set_cons_zero, List.set_cons_succ]
          refine' anyI_take R 4 rfl (v := ?_) (by kernel_rfl) (by rfl) (fun V hV => ?hy) HS0.out ?_
          case hy => ((try dsimp only at hV);  subst hV; go_simp; try with_reducible rfl)
          try simp only [Act.put, List.getElem_toArray, List.getElem_cons_succ, List.getElem_cons_zero, List.setIfInBounds_toArray, List.set_cons_zero, List.set_cons_succ]
          refine' anyI_take R 5 rfl (v := ?_) (by kernel_rfl) (by rfl) (fun V hV => ?hy) HS0.out ?_
          case hy => ((try dsimp only at hV);  subst hV; go_simp; try with_reducible rfl)
          try simp only [Act.put, List.getElem_toArray, List.getElem_cons_succ, List.getElem_cons_zero, List.setIfInBounds_toArray, List.set_cons_zero, List.set_cons_succ]
          refine' anyI_take R 6 rfl (v := ?_) (by kernel_rfl) (by rfl) (fun V hV => ?hy) HS0.out ?_
          case hy => ((try dsimp only at hV);  subst hV; go_simp; try with_reducible rfl)
          try simp only [Act.put, List.getElem_toArray, List.getElem_cons_succ, List.getElem_cons_zero, List.setIfInBounds_toArray, List.set_cons_zero, List.set_cons_succ]
          refine anyI_one 7 (by kernel_rfl) rfl ?_
          try simp only [List.getElem_toArray, List.getElem_cons_succ, List.getElem_cons_zero]
          refine opE_step ?_
          rw [if_pos (by rfl)]
          go_simp
          go_at_call 25
          refine (CF.out w.drew (Below.refl _ _).drew).mono ?_
          rintro e wf ⟨rfl, hwf⟩
          obtain rfl : w.drew = wf := hwf.symm
          try dsimp only
          refine ⟨HS0.out, ?_⟩
          try simp only [Act.put, List.getElem_toArray, List.getElem_cons_succ, List.getElem_cons_zero, List.setIfInBounds_toArray, List.set_cons_zero, List.set_cons_succ]
          refine' anyI_take R 8 rfl (v := ?_) (by kernel_rfl) (by rfl) (fun V hV => ?hy) HS0.out ?_
          case hy => ((try dsimp only at hV);  subst hV; go_simp; try with_reducible rfl)
          try simp only [Act.put, List.getElem_toArray, List.getElem_cons_succ, List.getElem_cons_zero, List.setIfInBounds_toArray, List.set_cons_zero, List.set_cons_succ]
          refine' anyI_take R 9 rfl (v := ?_) (by kernel_rfl) (by rfl) (fun V hV => ?hy) HS0.out ?_
          case hy => ((try dsimp only at hV);  subst hV; go_simp; try with_reducible rfl)
          try simp only [Act.put, List.getElem_toArray, List.getElem_cons_succ, List.getElem_cons_zero, List.setIfInBounds_toArray, List.set_cons_zero, List.set_cons_succ]
          refine' anyI_take R 10 rfl (v := ?_) (by kernel_rfl) (by rfl) (fun V hV => ?hy) HS0.out ?_
          case hy => ((try dsimp only at hV);  subst hV; go_simp; try with_reducible rfl)
          try simp only [Act.put, List.getElem_toArray, List.getElem_cons_succ, List.getElem_cons_zero, List.setIfInBounds_toArray, List.set_cons_zero, List.set_cons_succ]
          refine' anyI_take R 11 rfl (v := ?_) (by kernel_rfl) (by rfl) (fun V hV => ?hy) HS0.out ?_
          case hy => ((try dsimp only at hV);  subst hV; go_simp; try with_reducible rfl)
          try simp only [Act.put, List.getElem_toArray, List.getElem_cons_succ, List.getElem_cons_zero, List.setIfInBounds_toArray, List.set_cons_zero, List.set_cons_succ]
          refine' anyI_take R 12 rfl (v := ?_) (by kernel_rfl) (by rfl) (fun V hV => ?hy) HS0.out ?_
          case hy => ((try dsimp only at hV);  subst hV; go_simp; try with_reducible rfl)
          try simp only [Act.put, List.getElem_toArray, List.getElem_cons_succ, List.getElem_cons_zero, List.setIfInBounds_toArray, List.set_cons_zero, List.set_cons_succ]
          refine' anyI_take R 13 rfl (v := ?_) (by kernel_rfl) (by rfl) (fun V hV => ?hy) HS0.out ?_
          case hy => ((try dsimp only at hV);  subst hV; go_simp; try with_reducible rfl)
          try simp only [Act.put, List.getElem_toArray, List.getElem_cons_succ, List.getElem_cons_zero, List.setIfInBounds_toArray, List.set_cons_zero, List.set_cons_succ]
          refine' anyI_take R 14 rfl (v := ?_) (by kernel_rfl) (by rfl) (fun V hV => ?hy) HS0.out ?_
          case hy => ((try dsimp only at hV);  subst hV; go_simp; try with_reducible rfl)
          try simp only [Act.put, List.getElem_toArray, List.getElem_cons_succ, List.getElem_cons_zero, List.setIfInBounds_toArray, List.set_cons_zero, List.set_cons_succ]
          refine' anyI_take R 15 rfl (v := ?_) (by kernel_rfl) (by rfl) (fun V hV => ?hy) HS0.out ?_
          case hy => ((try dsimp only at hV);  subst hV; go_simp; try with_reducible rfl)
          try simp only [Act.put, List.getElem_toArray, List.getElem_cons_succ, List.getElem_cons_zero, List.setIfInBounds_toArray, List.set_cons_zero, List.set_cons_succ]
          refine' anyI_take R 16 rfl (v := ?_) (by kernel_rfl) (by rfl) (fun V hV => ?hy) HS0.out ?_
          case hy => ((try dsimp only at hV);  subst hV; go_simp; try with_reducible rfl)
          try simp only [Act.put, List.getElem_toArray, List.getElem_cons_succ, List.getElem_cons_zero, List.setIfInBounds_toArray, List.set_cons_zero, List.set_cons_succ]
          refine' anyI_take R 17 rfl (v := ?_) (by kernel_rfl) (by rfl) (fun V hV => ?hy) HS0.out ?_
          case hy => ((try dsimp only at hV);  subst hV; go_simp; try with_reducible rfl)
          try simp only [Act.put, List.getElem_toArray, List.getElem_cons_succ, List.getElem_cons_zero, List.setIfInBounds_toArray, List.set_cons_zero, List.set_cons_succ]
          refine' anyI_take R 18 rfl (v := ?_) (by kernel_rfl) (by rfl) (fun V hV => ?hy) HS0.out ?_
          case hy => ((try dsimp only at hV);  subst hV; go_simp; try with_reducible rfl)
          try simp only [Act.put, List.getElem_toArray, List.getElem_cons_succ, List.getElem_cons_zero, List.setIfInBounds_toArray, List.set_cons_zero, List.set_cons_succ]
          refine anyI_tail (by kernel_rfl) ?_
          try simp only [List.drop_succ_cons, List.drop_zero]
          clear R
          go_wp2_with fail
          refine NoPanic.normal ?_
          go_wp2_with fail
          exact HK.out _ _ _ _ _ _ _ _ _ _ _ _ _ _ _ _ _ _ _ _ _ _ _ _ _ _ Ab cb _ ⟨by omega, HBw.out.drew, by rw [He.out, hg1, hg2]; exact HBx.out, by rw [He.out, hg2]; exact HR.out, by rw [He.out, hg2]; exact hcp⟩ (by omega)
  · have i1 : ¬ (k : Int) < 4 := by omega
    have hde : k = 4 := by omega
    have Hde := Lib.hid hde
    clear HK hde hBw hb hr h
    go_wp2_with fail
    exact HX.out _ _ _ _ _ _ _ _ _ _ _ _ _ _ _ _ _ _ _ _ _ _ _ _ _ _ Hde.out
set_option maxRecDepth 100000 in
set_option maxHeartbeats 3200000 in
theorem lpK {w0 w1 : World} {b hv p27 lg : Nat} {i : Nat} {lv : List Bool} {H : BH} {N : Bch} {S : Nat → Int} {A : Nat → Option Addr} {L : Nat → List It} {c : Nat → Nat}  {w : World} (u0 u1 u2 u4 u6 u8 u9 u10 u11 u12 u13 u14 u15 u16 u17 u18 u19 u20 u21 u22 u23 u24 u25 u26 u28 u29 u30 u31 u32 u33 u34 u35 u36 u37 u38 u39 u40 u41 u42 u43 u44 u45 u46 u47 u48 u49 u50 u51 u52 u53 u54 u55 u56 u57 u58 u59 u60 u61 u62 u63 u64 u65 u66 u67 u68 u69 u70 u71 u72 u73 u74 u75 u76 u77 u78 u79 u80 u81 u82 u83 u84 u85 u86 u87 u88 u89 u90 u91 u92 u93 u94 u95 u96 u97 u98 u99 ua0 ua1 ua2 ua3 ua4 ua5 ua6 ua7 ua8 ua9 ub0 ub1 ub2 ub3 ub4 ub5 ub6 ub7 ub8 ub9 uc0 uc1 uc2 uc3 uc4 uc5 uc6 uc7 uc8 uc9 ud0 ud1 ud2 ud3 ud4 ud5 ud6 ud7 ud8 ud9 ue0 ue1 ue2 ue3 ue4 ue5 ue6 ue7 ue8 ue9 uf0 uf1 uf2 uf3 uf4 uf5 uf6 uf7 uf8 uf9 ug0 ug1 ug2 ug3 ug4 ug5 ug6 ug7 ug8 ug9 uh0 uh1 uh2 uh3 uh4 uh5 uh6 uh7 uh8 uh9 ui0 ui1 ui2 ui3 ui4 ui5 ui6 ui7 ui8 ui9 uj0 uj1 uj2 uj3 uj4 uj5 uj6 uj7 uj8 uj9 uk0 uk1 uk2 uk3 uk4 uk5 uk6 uk7 uk8 uk9 ul0 ul1 ul2 ul3 ul4 ul5 ul6 ul7 ul8 ul9 um0 um1 um2 um3 um4 um5 um6 um7 um8 um9 un0 un1 un2 un3 un4 un5 un6 un7 un8 un9 uo0 uo1 uo2 uo3 uo4 uo5 uo6 uo7 uo8 uo9 up0 up1 up2 up3 up4 up5 up6 up7 up8 up9 uq0 uq1 uq2 uq3 uq4 uq5 uq6 uq7 uq8 uq9 ur0 ur1 ur2 ur3 ur4 ur5 ur6 ur7 ur8 ur9 us1 us2 us3 us4 us5 us6 us7 us8 us9 ut0 ut1 ut2 ut3 ut4 ut5 ut6 ut7 ut8 ut9 uu0 uu1 uu2 uu3 uu4 uu5 uu6 uu7 uu8 uu9 uv0 uv1 uv2 uv3 uv4 uv5 uv6 uv7 uv8 uv9 uw0 uw1 uw2 uw3 : Value) (Q : Exit → Act → World → Prop) (hl4 : lv.length = 4) (hm : MI N S L i) (h : HvS w0 w1 b H N hv S A L c [(lg, Obj.cells ((lv.map Value.bool).toArray) 4 (0, 0))] []) (hp : w1.heap.size ≤ p27) (hI : (0 ≤ 4 ∧ Below w1.heap.size w1 w ∧ w.heap[p27]? = some (.cells (List.toArray [.int .i64 (getTo N lv 0).1, .slice none (getTo N lv 0).2.length 0]) 29 (0, 0)) ∧ RdI w1 w1.heap.size none (getTo N lv 0).2 ∧ (getTo N lv 0).2.length ≤ 0))
    (hX : ∀ (v28 vs1 vs2 vs3 vs4 vs5 vs6 vs7 vs8 vs9 vt0 vt1 vt2 vt3 vt4 vt5 vt6 vt7 vt8 vt9 vu0 vu1 vu2 vu3 vu4 vu5 : Value) (k : Nat) (Ab : Option Addr) (cb : Nat) (V : World), (k ≤ 4 ∧ Below w1.heap.size w1 V ∧ V.heap[p27]? = some (.cells (List.toArray [.int .i64 (getTo N lv k).1, .slice Ab (getTo N lv k).2.length cb]) 29 (0, 0)) ∧ RdI w1 w1.heap.size Ab (getTo N lv k).2 ∧ (getTo N lv k).2.length ≤ cb) → (k = 4) → Q (.exit 13) ⟨List.toArray (u0::u1::u2::(.pointer (some ⟨b, 0, none⟩))::u4::(.pointer (some ⟨hv, 0, none⟩))::u6::(.slice (some ⟨lg, 0, none⟩) 4 4)::u8::u9::u10::u11::u12::u13::u14::u15::u16::u17::u18::u19::u20::u21::u22::u23::u24::u25::u26::(.pointer (some ⟨p27, 0, none⟩))::v28::u29::u30::u31::u32::u33::u34::u35::u36::u37::u38::u39::u40::u41::u42::u43::u44::u45::u46::u47::u48::u49::u50::u51::u52::u53::u54::u55::u56::u57::u58::u59::u60::u61::u62::u63::u64::u65::u66::u67::u68::u69::u70::u71::u72::u73::u74::u75::u76::u77::u78::u79::u80::u81::u82::u83::u84::u85::u86::u87::u88::u89::u90::u91::u92::u93::u94::u95::u96::u97::u98::u99::ua0::ua1::ua2::ua3::ua4::ua5::ua6::ua7::ua8::ua9::ub0::ub1::ub2::ub3::ub4::ub5::ub6::ub7::ub8::ub9::uc0::uc1::uc2::uc3::uc4::uc5::uc6::uc7::uc8::uc9::ud0::ud1::ud2::ud3::ud4::ud5::ud6::ud7::ud8::ud9::ue0::ue1::ue2::ue3::ue4::ue5::ue6::ue7::ue8::ue9::uf0::uf1::uf2::uf3::uf4::uf5::uf6::uf7::uf8::uf9::ug0::ug1::ug2::ug3::ug4::ug5::ug6::ug7::ug8::ug9::uh0::uh1::uh2::uh3::uh4::uh5::uh6::uh7::uh8::uh9::ui0::ui1::ui2::ui3::ui4::ui5::ui6::ui7::ui8::ui9::uj0::uj1::uj2::uj3::uj4::uj5::uj6::uj7::uj8::uj9::uk0::uk1::uk2::uk3::uk4::uk5::uk6::uk7::uk8::uk9::ul0::ul1::ul2::ul3::ul4::ul5::ul6::ul7::ul8::ul9::um0::um1::um2::um3::um4::um5::um6::um7::um8::um9::un0::un1::un2::un3::un4::un5::un6::un7::un8::un9::uo0::uo1::uo2::uo3::uo4::uo5::uo6::uo7::uo8::uo9::up0::up1::up2::up3::up4::up5::up6::up7::up8::up9::uq0::uq1::uq2::uq3::uq4::uq5::uq6::uq7::uq8::uq9::ur0::ur1::ur2::ur3::ur4::ur5::ur6::ur7::ur8::ur9::(.int .i64 ((k : Nat) : Int))::vs1::vs2::vs3::vs4::vs5::vs6::vs7::vs8::vs9::vt0::vt1::vt2::vt3::vt4::vt5::vt6::vt7::vt8::vt9::vu0::vu1::vu2::vu3::vu4::vu5::uu6::uu7::uu8::uu9::uv0::uv1::uv2::uv3::uv4::uv5::uv6::uv7::uv8::uv9::uw0::uw1::uw2::uw3::[]), []⟩ V) :
    Code.wp Tryd.prog (.loop (sub [1, 1, 1, 1, 0, 1, 0, 0, 1, 0, 0, 1, 1, 1, 1, 1, 1, 1, 1, 1, 1, 0, 1, 0, 0] codeLP)) Q ⟨List.toArray (u0::u1::u2::(.pointer (some ⟨b, 0, none⟩))::u4::(.pointer (some ⟨hv, 0, none⟩))::u6::(.slice (some ⟨lg, 0, none⟩) 4 4)::u8::u9::u10::u11::u12::u13::u14::u15::u16::u17::u18::u19::u20::u21::u22::u23::u24::u25::u26::(.pointer (some ⟨p27, 0, none⟩))::u28::u29::u30::u31::u32::u33::u34::u35::u36::u37::u38::u39::u40::u41::u42::u43::u44::u45::u46::u47::u48::u49::u50::u51::u52::u53::u54::u55::u56::u57::u58::u59::u60::u61::u62::u63::u64::u65::u66::u67::u68::u69::u70::u71::u72::u73::u74::u75::u76::u77::u78::u79::u80::u81::u82::u83::u84::u85::u86::u87::u88::u89::u90::u91::u92::u93::u94::u95::u96::u97::u98::u99::ua0::ua1::ua2::ua3::ua4::ua5::ua6::ua7::ua8::ua9::ub0::ub1::ub2::ub3::ub4::ub5::ub6::ub7::ub8::ub9::uc0::uc1::uc2::uc3::uc4::uc5::uc6::uc7::uc8::uc9::ud0::ud1::ud2::ud3::ud4::ud5::ud6::ud7::ud8::ud9::ue0::ue1::ue2::ue3::ue4::ue5::ue6::ue7::ue8::ue9::uf0::uf1::uf2::uf3::uf4::uf5::uf6::uf7::uf8::uf9::ug0::ug1::ug2::ug3::ug4::ug5::ug6::ug7::ug8::ug9::uh0::uh1::uh2::uh3::uh4::uh5::uh6::uh7::uh8::uh9::ui0::ui1::ui2::ui3::ui4::ui5::ui6::ui7::ui8::ui9::uj0::uj1::uj2::uj3::uj4::uj5::uj6::uj7::uj8::uj9::uk0::uk1::uk2::uk3::uk4::uk5::uk6::uk7::uk8::uk9::ul0::ul1::ul2::ul3::ul4::ul5::ul6::ul7::ul8::ul9::um0::um1::um2::um3::um4::um5::um6::um7::um8::um9::un0::un1::un2::un3::un4::un5::un6::un7::un8::un9::uo0::uo1::uo2::uo3::uo4::uo5::uo6::uo7::uo8::uo9::up0::up1::up2::up3::up4::up5::up6::up7::up8::up9::uq0::uq1::uq2::uq3::uq4::uq5::uq6::uq7::uq8::uq9::ur0::ur1::ur2::ur3::ur4::ur5::ur6::ur7::ur8::ur9::(.int .i64 ((0 : Nat) : Int))::us1::us2::us3::us4::us5::us6::us7::us8::us9::ut0::ut1::ut2::ut3::ut4::ut5::ut6::ut7::ut8::ut9::uu0::uu1::uu2::uu3::uu4::uu5::uu6::uu7::uu8::uu9::uv0::uv1::uv2::uv3::uv4::uv5::uv6::uv7::uv8::uv9::uw0::uw1::uw2::uw3::[]), []⟩ w := by
  refine wp_loop_ghost (fun gk a V => ∀ C : Prop, (∀ (u28 us1 us2 us3 us4 us5 us6 us7 us8 us9 ut0 ut1 ut2 ut3 ut4 ut5 ut6 ut7 ut8 ut9 uu0 uu1 uu2 uu3 uu4 uu5 : Value) (k : Nat) (Ab : Option Addr) (cb : Nat), gk = 4 - k → (k ≤ 4 ∧ Below w1.heap.size w1 V ∧ V.heap[p27]? = some (.cells (List.toArray [.int .i64 (getTo N lv k).1, .slice Ab (getTo N lv k).2.length cb]) 29 (0, 0)) ∧ RdI w1 w1.heap.size Ab (getTo N lv k).2 ∧ (getTo N lv k).2.length ≤ cb) → a = ⟨List.toArray (u0::u1::u2::(.pointer (some ⟨b, 0, none⟩))::u4::(.pointer (some ⟨hv, 0, none⟩))::u6::(.slice (some ⟨lg, 0, none⟩) 4 4)::u8::u9::u10::u11::u12::u13::u14::u15::u16::u17::u18::u19::u20::u21::u22::u23::u24::u25::u26::(.pointer (some ⟨p27, 0, none⟩))::u28::u29::u30::u31::u32::u33::u34::u35::u36::u37::u38::u39::u40::u41::u42::u43::u44::u45::u46::u47::u48::u49::u50::u51::u52::u53::u54::u55::u56::u57::u58::u59::u60::u61::u62::u63::u64::u65::u66::u67::u68::u69::u70::u71::u72::u73::u74::u75::u76::u77::u78::u79::u80::u81::u82::u83::u84::u85::u86::u87::u88::u89::u90::u91::u92::u93::u94::u95::u96::u97::u98::u99::ua0::ua1::ua2::ua3::ua4::ua5::ua6::ua7::ua8::ua9::ub0::ub1::ub2::ub3::ub4::ub5::ub6::ub7::ub8::ub9::uc0::uc1::uc2::uc3::uc4::uc5::uc6::uc7::uc8::uc9::ud0::ud1::ud2::ud3::ud4::ud5::ud6::ud7::ud8::ud9::ue0::ue1::ue2::ue3::ue4::ue5::ue6::ue7::ue8::ue9::uf0::uf1::uf2::uf3::uf4::uf5::uf6::uf7::uf8::uf9::ug0::ug1::ug2::ug3::ug4::ug5::ug6::ug7::ug8::ug9::uh0::uh1::uh2::uh3::uh4::uh5::uh6::uh7::uh8::uh9::ui0::ui1::ui2::ui3::ui4::ui5::ui6::ui7::ui8::ui9::uj0::uj1::uj2::uj3::uj4::uj5::uj6::uj7::uj8::uj9::uk0::uk1::uk2::uk3::uk4::uk5::uk6::uk7::uk8::uk9::ul0::ul1::ul2::ul3::ul4::ul5::ul6::ul7::ul8::ul9::um0::um1::um2::um3::um4::um5::um6::um7::um8::um9::un0::un1::un2::un3::un4::un5::un6::un7::un8::un9::uo0::uo1::uo2::uo3::uo4::uo5::uo6::uo7::uo8::uo9::up0::up1::up2::up3::up4::up5::up6::up7::up8::up9::uq0::uq1::uq2::uq3::uq4::uq5::uq6::uq7::uq8::uq9::ur0::ur1::ur2::ur3::ur4::ur5::ur6::ur7::ur8::ur9::(.int .i64 ((k : Nat) : Int))::us1::us2::us3::us4::us5::us6::us7::us8::us9::ut0::ut1::ut2::ut3::ut4::ut5::ut6::ut7::ut8::ut9::uu0::uu1::uu2::uu3::uu4::uu5::uu6::uu7::uu8::uu9::uv0::uv1::uv2::uv3::uv4::uv5::uv6::uv7::uv8::uv9::uw0::uw1::uw2::uw3::[]), []⟩ → C) → C) (4 - 0) ?_ ?_
  · intro C hC
    exact hC _ _ _ _ _ _ _ _ _ _ _ _ _ _ _ _ _ _ _ _ _ _ _ _ _ _ (0) (none) (0) rfl hI rfl
  · intro gk a V hI'
    refine hI' _ ?_
    intro u28 us1 us2 us3 us4 us5 us6 us7 us8 us9 ut0 ut1 ut2 ut3 ut4 ut5 ut6 ut7 ut8 ut9 uu0 uu1 uu2 uu3 uu4 uu5 k Ab cb hk hinv ha
    subst ha
    subst hk
    refine lpKb _ _ _ _ _ _ _ _ _ _ _ _ _ _ _ _ _ _ _ _ _ _ _ _ _ _ _ _ _ _ _ _ _ _ _ _ _ _ _ _ _ _ _ _ _ _ _ _ _ _ _ _ _ _ _ _ _ _ _ _ _ _ _ _ _ _ _ _ _ _ _ _ _ _ _ _ _ _ _ _ _ _ _ _ _ _ _ _ _ _ _ _ _ _ _ _ _ _ _ _ _ _ _ _ _ _ _ _ _ _ _ _ _ _ _ _ _ _ _ _ _ _ _ _ _ _ _ _ _ _ _ _ _ _ _ _ _ _ _ _ _ _ _ _ _ _ _ _ _ _ _ _ _ _ _ _ _ _ _ _ _ _ _ _ _ _ _ _ _ _ _ _ _ _ _ _ _ _ _ _ _ _ _ _ _ _ _ _ _ _ _ _ _ _ _ _ _ _ _ _ _ _ _ _ _ _ _ _ _ _ _ _ _ _ _ _ _ _ _ _ _ _ _ _ _ _ _ _ _ _ _ _ _ _ _ _ _ _ _ _ _ _ _ _ _ _ _ _ _ _ _ _ _ _ _ _ _ _ _ _ _ _ _ _ _ _ _ _ _ _ _ _ _ _ _ _ _ _ _ _ _ _ _ _ _ _ _ _ _ _ _ _ _ _ _ _ _ _ _ _ _ _ _ _ _ _ _ _ _ _ _ _ _ _ _ _ _ _ _ _ _ hl4 hm h hp hinv (fun v28 vs1 vs2 vs3 vs4 vs5 vs6 vs7 vs8 vs9 vt0 vt1 vt2 vt3 vt4 vt5 vt6 vt7 vt8 vt9 vu0 vu1 vu2 vu3 vu4 vu5 Ab2 cb2 V2 h2 hm => ?_) (fun v28 vs1 vs2 vs3 vs4 vs5 vs6 vs7 vs8 vs9 vt0 vt1 vt2 vt3 vt4 vt5 vt6 vt7 vt8 vt9 vu0 vu1 vu2 vu3 vu4 vu5 hx => hX v28 vs1 vs2 vs3 vs4 vs5 vs6 vs7 vs8 vs9 vt0 vt1 vt2 vt3 vt4 vt5 vt6 vt7 vt8 vt9 vu0 vu1 vu2 vu3 vu4 vu5 k Ab cb V hinv hx)
    refine ⟨_, hm, fun C hC => ?_⟩
    exact hC v28 vs1 vs2 vs3 vs4 vs5 vs6 vs7 vs8 vs9 vt0 vt1 vt2 vt3 vt4 vt5 vt6 vt7 vt8 vt9 vu0 vu1 vu2 vu3 vu4 vu5 ((k + 1)) (Ab2) (cb2) rfl h2 rfl
set_option maxRecDepth 100000 in
set_option maxHeartbeats 3200000 in
theorem lpM {w0 : World} {b hv : Nat} {H : BH} {N : Bch} {S : Nat → Int} {A : Nat → Option Addr} {L : Nat → List It} {c : Nat → Nat} {KL : List (Nat × Obj)} {RL : List (Option Addr × List It)} {lg : Nat} {lv : List Bool} {s : Int} {l : List It} {w : World} (u0 u1 u2 u4 u5 u6 u8 u9 u10 u11 u12 u13 u14 u15 u16 u17 u18 u19 u20 u21 u22 u23 u24 u25 u26 u27 u28 u29 u30 u31 u32 u33 u34 u35 u36 u37 u38 u39 u40 u41 u42 u43 u44 u45 u46 u47 u48 u49 u50 u51 u52 u53 u54 u55 u56 u57 u58 u59 u60 u61 u62 u63 u64 u65 u66 u67 u68 u69 u70 u71 u72 u73 u74 u75 u76 u77 u78 u79 u80 u81 u82 u83 u84 u85 u86 u87 u88 u89 u90 u91 u92 u93 u94 u95 u96 u97 u98 u99 ua0 ua1 ua2 ua3 ua4 ua5 ua6 ua7 ua8 ua9 ub0 ub1 ub2 ub3 ub4 ub5 ub6 ub7 ub8 ub9 uc0 uc1 uc2 uc3 uc4 uc5 uc6 uc7 uc8 uc9 ud0 ud1 ud2 ud3 ud4 ud5 ud6 ud7 ud8 ud9 ue0 ue1 ue2 ue3 ue4 ue5 ue6 ue7 ue8 ue9 uf0 uf1 uf2 uf3 uf4 uf5 uf6 uf7 uf8 uf9 ug0 ug1 ug2 ug3 ug4 ug5 ug6 ug7 ug8 ug9 uh0 uh1 uh2 uh3 uh4 uh5 uh6 uh7 uh8 uh9 ui0 ui1 ui2 ui3 ui4 ui5 ui6 ui7 ui8 ui9 uj0 uj1 uj2 uj3 uj4 uj5 uj6 uj7 uj8 uj9 uk0 uk1 uk2 uk3 uk4 uk5 uk6 uk7 uk8 uk9 ul0 ul1 ul2 ul3 ul4 ul5 ul6 ul7 ul8 ul9 um0 um1 um2 um3 um4 um5 um6 um7 um8 um9 un0 un1 un2 un3 un4 un5 un6 un7 un8 un9 uo0 uo1 uo2 uo3 uo4 uo5 uo6 uo7 uo8 uo9 up0 up1 up2 up3 up4 up5 up6 up7 up8 up9 uq0 uq1 uq2 uq3 uq4 uq5 uq6 uq7 uq8 uq9 ur0 ur1 ur2 ur3 ur4 ur5 ur6 ur7 ur8 ur9 us0 us1 us2 us3 us4 us5 us6 us7 us8 us9 ut0 ut1 ut2 ut3 ut4 ut5 ut6 ut7 ut8 ut9 uu0 uu1 uu2 uu3 uu4 uu5 uu6 uu7 uu8 uu9 uv0 uv1 uv2 uv3 uv4 uv5 uv6 uv7 uv8 uv9 uw0 uw1 uw2 uw3 : Value) (K : Act → World → Prop) (Q0 : Exit → Act → World → Prop) (h : HvS w0 w b H N hv S A L c KL RL) (ht : TabOk w0) (hl4 : lv.length = 4) (hlv : RdO w w.heap.size (some ⟨lg, 0, none⟩) lv) (hgs : getS N lv = (s, l)) 
    (hK : ∀ (vu6 vu7 vu8 vu9 vv0 vv1 : Value) (p29 : Nat) (AG : Option Addr) (cg : Nat) (V : World), l.length ≤ cg → RdI V V.heap.size AG l → V.cell? ⟨p29, 0, none⟩ = some (.int .i64 s) ∧ V.cell? ⟨p29, 1, none⟩ = some (.slice AG l.length cg) → Below w.heap.size w V → K ⟨List.toArray (u0::u1::u2::(.pointer (some ⟨b, 0, none⟩))::u4::u5::u6::(.slice (some ⟨lg, 0, none⟩) 4 4)::u8::u9::u10::u11::u12::u13::u14::u15::u16::u17::u18::u19::u20::u21::u22::u23::u24::u25::u26::u27::u28::(.pointer (some ⟨p29, 0, none⟩))::(.bool (decide (0 < s)))::u31::u32::u33::u34::u35::u36::u37::u38::u39::u40::u41::u42::u43::u44::u45::u46::u47::u48::u49::u50::u51::u52::u53::u54::u55::u56::u57::u58::u59::u60::u61::u62::u63::u64::u65::u66::u67::u68::u69::u70::u71::u72::u73::u74::u75::u76::u77::u78::u79::u80::u81::u82::u83::u84::u85::u86::u87::u88::u89::u90::u91::u92::u93::u94::u95::u96::u97::u98::u99::ua0::ua1::ua2::ua3::ua4::ua5::ua6::ua7::ua8::ua9::ub0::ub1::ub2::ub3::ub4::ub5::ub6::ub7::ub8::ub9::uc0::uc1::uc2::uc3::uc4::uc5::uc6::uc7::uc8::uc9::ud0::ud1::ud2::ud3::ud4::ud5::ud6::ud7::ud8::ud9::ue0::ue1::ue2::ue3::ue4::ue5::ue6::ue7::ue8::ue9::uf0::uf1::uf2::uf3::uf4::uf5::uf6::uf7::uf8::uf9::ug0::ug1::ug2::ug3::ug4::ug5::ug6::ug7::ug8::ug9::uh0::uh1::uh2::uh3::uh4::uh5::uh6::uh7::uh8::uh9::ui0::ui1::ui2::ui3::ui4::ui5::ui6::ui7::ui8::ui9::uj0::uj1::uj2::uj3::uj4::uj5::uj6::uj7::uj8::uj9::uk0::uk1::uk2::uk3::uk4::uk5::uk6::uk7::uk8::uk9::ul0::ul1::ul2::ul3::ul4::ul5::ul6::ul7::ul8::ul9::um0::um1::um2::um3::um4::um5::um6::um7::um8::um9::un0::un1::un2::un3::un4::un5::un6::un7::un8::un9::uo0::uo1::uo2::uo3::uo4::uo5::uo6::uo7::uo8::uo9::up0::up1::up2::up3::up4::up5::up6::up7::up8::up9::uq0::uq1::uq2::uq3::uq4::uq5::uq6::uq7::uq8::uq9::ur0::ur1::ur2::ur3::ur4::ur5::ur6::ur7::ur8::ur9::us0::us1::us2::us3::us4::us5::us6::us7::us8::us9::ut0::ut1::ut2::ut3::ut4::ut5::ut6::ut7::ut8::ut9::uu0::uu1::uu2::uu3::uu4::uu5::vu6::vu7::vu8::vu9::vv0::vv1::uv2::uv3::uv4::uv5::uv6::uv7::uv8::uv9::uw0::uw1::uw2::uw3::[]), []⟩ V) :
    Code.wp Tryd.prog (sub [1, 1, 1, 1, 0, 1, 0, 0, 1, 0, 0, 1, 1, 1, 1, 1, 1, 1, 1, 1, 1, 1, 0] codeLP) (Exit.then K Q0) ⟨List.toArray (u0::u1::u2::(.pointer (some ⟨b, 0, none⟩))::u4::u5::u6::(.slice (some ⟨lg, 0, none⟩) 4 4)::u8::u9::u10::u11::u12::u13::u14::u15::u16::u17::u18::u19::u20::u21::u22::u23::u24::u25::u26::u27::u28::u29::u30::u31::u32::u33::u34::u35::u36::u37::u38::u39::u40::u41::u42::u43::u44::u45::u46::u47::u48::u49::u50::u51::u52::u53::u54::u55::u56::u57::u58::u59::u60::u61::u62::u63::u64::u65::u66::u67::u68::u69::u70::u71::u72::u73::u74::u75::u76::u77::u78::u79::u80::u81::u82::u83::u84::u85::u86::u87::u88::u89::u90::u91::u92::u93::u94::u95::u96::u97::u98::u99::ua0::ua1::ua2::ua3::ua4::ua5::ua6::ua7::ua8::ua9::ub0::ub1::ub2::ub3::ub4::ub5::ub6::ub7::ub8::ub9::uc0::uc1::uc2::uc3::uc4::uc5::uc6::uc7::uc8::uc9::ud0::ud1::ud2::ud3::ud4::ud5::ud6::ud7::ud8::ud9::ue0::ue1::ue2::ue3::ue4::ue5::ue6::ue7::ue8::ue9::uf0::uf1::uf2::uf3::uf4::uf5::uf6::uf7::uf8::uf9::ug0::ug1::ug2::ug3::ug4::ug5::ug6::ug7::ug8::ug9::uh0::uh1::uh2::uh3::uh4::uh5::uh6::uh7::uh8::uh9::ui0::ui1::ui2::ui3::ui4::ui5::ui6::ui7::ui8::ui9::uj0::uj1::uj2::uj3::uj4::uj5::uj6::uj7::uj8::uj9::uk0::uk1::uk2::uk3::uk4::uk5::uk6::uk7::uk8::uk9::ul0::ul1::ul2::ul3::ul4::ul5::ul6::ul7::ul8::ul9::um0::um1::um2::um3::um4::um5::um6::um7::um8::um9::un0::un1::un2::un3::un4::un5::un6::un7::un8::un9::uo0::uo1::uo2::uo3::uo4::uo5::uo6::uo7::uo8::uo9::up0::up1::up2::up3::up4::up5::up6::up7::up8::up9::uq0::uq1::uq2::uq3::uq4::uq5::uq6::uq7::uq8::uq9::ur0::ur1::ur2::ur3::ur4::ur5::ur6::ur7::ur8::ur9::us0::us1::us2::us3::us4::us5::us6::us7::us8::us9::ut0::ut1::ut2::ut3::ut4::ut5::ut6::ut7::ut8::ut9::uu0::uu1::uu2::uu3::uu4::uu5::uu6::uu7::uu8::uu9::uv0::uv1::uv2::uv3::uv4::uv5::uv6::uv7::uv8::uv9::uw0::uw1::uw2::uw3::[]), []⟩ w := by
  have HK := Lib.hid hK
  clear hK
  conv => arg 2; whnf
  have CG := Lib.hid (kx_get h.kr.kx ht lv (some ⟨lg, 0, none⟩) 4 4 hl4.symm hlv s l hgs)
  clear h ht hl4 hlv hgs
  go_wp2_with fail
  refine CG.out.mono ?_
  rintro e w2 ⟨AG, cg, rfl, hcg, ho, _, hb⟩
  have B1 := below1 w2 (.cells #[.int .i64 s, .slice AG l.length cg] 29 (0, 0))
  have HR := Lib.hid ((ho.rdS.2.2.below B1 (Nat.le_refl _)).more B1.size)
  have q := fun i => cell_of_row _ _ i _ _ _ (heap_alloc_new w2 (.cells #[.int .i64 s, .slice AG l.length cg] 29 (0, 0)))
  have HQ := Lib.hid (And.intro (q 0) (q 1))
  have HB := Lib.hid (hb.trans (B1.mono hb.size))
  clear ho B1 q hb
  go_wp2_with fail
  exact HK.out _ _ _ _ _ _ _ AG cg _ hcg HR.out HQ.out HB.out
set_option maxRecDepth 100000 in
set_option maxHeartbeats 3200000 in
theorem lpO {p27 p29 : Nat} {s : Int} {l : List It} {AG AB : Option Addr} {cg cb : Nat} {w : World} (u0 u1 u2 u3 u4 u5 u6 u7 u8 u9 u10 u11 u12 u13 u14 u15 u16 u17 u18 u19 u20 u21 u22 u23 u24 u25 u26 u28 u31 u32 u33 u34 u35 u36 u37 u38 u39 u40 u41 u42 u43 u44 u45 u46 u47 u48 u49 u50 u51 u52 u53 u54 u55 u56 u57 u58 u59 u60 u61 u62 u63 u64 u65 u66 u67 u68 u69 u70 u71 u72 u73 u74 u75 u76 u77 u78 u79 u80 u81 u82 u83 u84 u85 u86 u87 u88 u89 u90 u91 u92 u93 u94 u95 u96 u97 u98 u99 ua0 ua1 ua2 ua3 ua4 ua5 ua6 ua7 ua8 ua9 ub0 ub1 ub2 ub3 ub4 ub5 ub6 ub7 ub8 ub9 uc0 uc1 uc2 uc3 uc4 uc5 uc6 uc7 uc8 uc9 ud0 ud1 ud2 ud3 ud4 ud5 ud6 ud7 ud8 ud9 ue0 ue1 ue2 ue3 ue4 ue5 ue6 ue7 ue8 ue9 uf0 uf1 uf2 uf3 uf4 uf5 uf6 uf7 uf8 uf9 ug0 ug1 ug2 ug3 ug4 ug5 ug6 ug7 ug8 ug9 uh0 uh1 uh2 uh3 uh4 uh5 uh6 uh7 uh8 uh9 ui0 ui1 ui2 ui3 ui4 ui5 ui6 ui7 ui8 ui9 uj0 uj1 uj2 uj3 uj4 uj5 uj6 uj7 uj8 uj9 uk0 uk1 uk2 uk3 uk4 uk5 uk6 uk7 uk8 uk9 ul0 ul1 ul2 ul3 ul4 ul5 ul6 ul7 ul8 ul9 um0 um1 um2 um3 um4 um5 um6 um7 um8 um9 un0 un1 un2 un3 un4 un5 un6 un7 un8 un9 uo0 uo1 uo2 uo3 uo4 uo5 uo6 uo7 uo8 uo9 up0 up1 up2 up3 up4 up5 up6 up7 up8 up9 uq0 uq1 uq2 uq3 uq4 uq5 uq6 uq7 uq8 uq9 ur0 ur1 ur2 ur3 ur4 ur5 ur6 ur7 ur8 ur9 us0 us1 us2 us3 us4 us5 us6 us7 us8 us9 ut0 ut1 ut2 ut3 ut4 ut5 ut6 ut7 ut8 ut9 uu0 uu1 uu2 uu3 uu4 uu5 uu6 uu7 uu8 uu9 uv0 uv1 uv2 uv3 uv4 uv5 uv6 uv7 uv8 uv9 uw0 uw1 uw2 uw3 : Value) (K : Act → World → Prop) (Q0 : Exit → Act → World → Prop) (h1 : w.cell? ⟨p29, 0, none⟩ = some (.int .i64 s) ∧ w.cell? ⟨p29, 1, none⟩ = some (.slice AG l.length cg)) (h2 : w.cell? ⟨p27, 0, none⟩ = some (.int .i64 s) ∧ w.cell? ⟨p27, 1, none⟩ = some (.slice AB l.length cb)) (r1 : RdI w w.heap.size AG l) (r2 : RdI w w.heap.size AB l) 
    (hK : ∀ (v2 vv2 vv3 vv4 vv5 vv6 vv7 vv8 vv9 vw0 vw1 vw2 : Value) (V : World), Below w.heap.size w V → K ⟨List.toArray (u0::u1::v2::u3::u4::u5::u6::u7::u8::u9::u10::u11::u12::u13::u14::u15::u16::u17::u18::u19::u20::u21::u22::u23::u24::u25::u26::(.pointer (some ⟨p27, 0, none⟩))::u28::(.pointer (some ⟨p29, 0, none⟩))::(.bool (decide (0 < s)))::u31::u32::u33::u34::u35::u36::u37::u38::u39::u40::u41::u42::u43::u44::u45::u46::u47::u48::u49::u50::u51::u52::u53::u54::u55::u56::u57::u58::u59::u60::u61::u62::u63::u64::u65::u66::u67::u68::u69::u70::u71::u72::u73::u74::u75::u76::u77::u78::u79::u80::u81::u82::u83::u84::u85::u86::u87::u88::u89::u90::u91::u92::u93::u94::u95::u96::u97::u98::u99::ua0::ua1::ua2::ua3::ua4::ua5::ua6::ua7::ua8::ua9::ub0::ub1::ub2::ub3::ub4::ub5::ub6::ub7::ub8::ub9::uc0::uc1::uc2::uc3::uc4::uc5::uc6::uc7::uc8::uc9::ud0::ud1::ud2::ud3::ud4::ud5::ud6::ud7::ud8::ud9::ue0::ue1::ue2::ue3::ue4::ue5::ue6::ue7::ue8::ue9::uf0::uf1::uf2::uf3::uf4::uf5::uf6::uf7::uf8::uf9::ug0::ug1::ug2::ug3::ug4::ug5::ug6::ug7::ug8::ug9::uh0::uh1::uh2::uh3::uh4::uh5::uh6::uh7::uh8::uh9::ui0::ui1::ui2::ui3::ui4::ui5::ui6::ui7::ui8::ui9::uj0::uj1::uj2::uj3::uj4::uj5::uj6::uj7::uj8::uj9::uk0::uk1::uk2::uk3::uk4::uk5::uk6::uk7::uk8::uk9::ul0::ul1::ul2::ul3::ul4::ul5::ul6::ul7::ul8::ul9::um0::um1::um2::um3::um4::um5::um6::um7::um8::um9::un0::un1::un2::un3::un4::un5::un6::un7::un8::un9::uo0::uo1::uo2::uo3::uo4::uo5::uo6::uo7::uo8::uo9::up0::up1::up2::up3::up4::up5::up6::up7::up8::up9::uq0::uq1::uq2::uq3::uq4::uq5::uq6::uq7::uq8::uq9::ur0::ur1::ur2::ur3::ur4::ur5::ur6::ur7::ur8::ur9::us0::us1::us2::us3::us4::us5::us6::us7::us8::us9::ut0::ut1::ut2::ut3::ut4::ut5::ut6::ut7::ut8::ut9::uu0::uu1::uu2::uu3::uu4::uu5::uu6::uu7::uu8::uu9::uv0::uv1::vv2::vv3::vv4::vv5::vv6::vv7::vv8::vv9::vw0::vw1::vw2::uw3::[]), []⟩ V) :
    Code.wp Tryd.prog (sub [1, 1, 1, 1, 0, 1, 0, 0, 1, 0, 0, 1, 1, 1, 1, 1, 1, 1, 1, 1, 1, 1, 1] codeLP) (Exit.then K Q0) ⟨List.toArray (u0::u1::u2::u3::u4::u5::u6::u7::u8::u9::u10::u11::u12::u13::u14::u15::u16::u17::u18::u19::u20::u21::u22::u23::u24::u25::u26::(.pointer (some ⟨p27, 0, none⟩))::u28::(.pointer (some ⟨p29, 0, none⟩))::(.bool (decide (0 < s)))::u31::u32::u33::u34::u35::u36::u37::u38::u39::u40::u41::u42::u43::u44::u45::u46::u47::u48::u49::u50::u51::u52::u53::u54::u55::u56::u57::u58::u59::u60::u61::u62::u63::u64::u65::u66::u67::u68::u69::u70::u71::u72::u73::u74::u75::u76::u77::u78::u79::u80::u81::u82::u83::u84::u85::u86::u87::u88::u89::u90::u91::u92::u93::u94::u95::u96::u97::u98::u99::ua0::ua1::ua2::ua3::ua4::ua5::ua6::ua7::ua8::ua9::ub0::ub1::ub2::ub3::ub4::ub5::ub6::ub7::ub8::ub9::uc0::uc1::uc2::uc3::uc4::uc5::uc6::uc7::uc8::uc9::ud0::ud1::ud2::ud3::ud4::ud5::ud6::ud7::ud8::ud9::ue0::ue1::ue2::ue3::ue4::ue5::ue6::ue7::ue8::ue9::uf0::uf1::uf2::uf3::uf4::uf5::uf6::uf7::uf8::uf9::ug0::ug1::ug2::ug3::ug4::ug5::ug6::ug7::ug8::ug9::uh0::uh1::uh2::uh3::uh4::uh5::uh6::uh7::uh8::uh9::ui0::ui1::ui2::ui3::ui4::ui5::ui6::ui7::ui8::ui9::uj0::uj1::uj2::uj3::uj4::uj5::uj6::uj7::uj8::uj9::uk0::uk1::uk2::uk3::uk4::uk5::uk6::uk7::uk8::uk9::ul0::ul1::ul2::ul3::ul4::ul5::ul6::ul7::ul8::ul9::um0::um1::um2::um3::um4::um5::um6::um7::um8::um9::un0::un1::un2::un3::un4::un5::un6::un7::un8::un9::uo0::uo1::uo2::uo3::uo4::uo5::uo6::uo7::uo8::uo9::up0::up1::up2::up3::up4::up5::up6::up7::up8::up9::uq0::uq1::uq2::uq3::uq4::uq5::uq6::uq7::uq8::uq9::ur0::ur1::ur2::ur3::ur4::ur5::ur6::ur7::ur8::ur9::us0::us1::us2::us3::us4::us5::us6::us7::us8::us9::ut0::ut1::ut2::ut3::ut4::ut5::ut6::ut7::ut8::ut9::uu0::uu1::uu2::uu3::uu4::uu5::uu6::uu7::uu8::uu9::uv0::uv1::uv2::uv3::uv4::uv5::uv6::uv7::uv8::uv9::uw0::uw1::uw2::uw3::[]), []⟩ w := by
  have HK := Lib.hid hK
  clear hK
  conv => arg 2; whnf
  have CS := sameRec_any s s AG AB l.length l.length cg cb l l w rfl rfl r1 r2
  rw [decide_eq_true (show s = s ∧ l = l from ⟨rfl, rfl⟩)] at CS
  have CS := Lib.hid CS
  obtain ⟨a0, a1⟩ := h1
  obtain ⟨c0, c1⟩ := h2
  clear r1 r2
  by_cases h0 : 0 < s
  · have HD := Lib.hid (show decide (0 < s) = true from decide_eq_true h0)
    rw [HD.out] at HK ⊢
    go_wp2_with (go_at_call 14; (with_reducible refine CS.out.mono ?_); rintro e w2 ⟨rfl, hb⟩)
    exact HK.out _ _ _ _ _ _ _ _ _ _ _ _ w2 hb
  · have HD := Lib.hid (show decide (0 < s) = false from decide_eq_false h0)
    rw [HD.out] at HK ⊢
    go_wp2_with (go_at_call 14; (with_reducible refine CS.out.mono ?_); rintro e w2 ⟨rfl, hb⟩)
    exact HK.out _ _ _ _ _ _ _ _ _ _ _ _ w2 hb
end Go.Proofs.YtoomdgidpplpfaaDoor
