/- BenchReplace: its loops. -/
import Derived.Test.YtpiilfgikgkneaaBenchReplaceMath
import Derived.Test.YtpiilfgikgkneaaSub
set_option linter.unusedVariables false
set_option linter.unusedSimpArgs false
namespace Go.Proofs.Ytpiilfgikgkneaa
open Go.RowKit

noncomputable def codeBR : Code := Try.f4.body.getD .skip
set_option maxRecDepth 100000 in
set_option maxHeartbeats 3200000 in
theorem brAb {W : World} {b nl c : Nat} {A : Option Addr} {l : List Int} {i : Nat} {H : BH} {w : World} (u0 u2 u3 u4 u6 u8 u9 u10 u11 u12 u13 u14 u15 u16 u17 u18 u19 u20 u21 u22 u23 u24 u25 u26 u27 u28 u29 u30 u31 u32 u33 u34 u35 u36 u37 u38 u39 u40 u41 u42 u43 u44 u45 u46 u47 u48 u49 u50 u51 u52 u53 u54 u55 u56 u57 u58 u59 u60 u61 u62 u63 u64 u65 u66 u67 u68 u69 u70 u71 u72 u73 u74 u75 u76 u77 u78 u79 u80 u81 u82 u83 u84 u85 u86 u87 u88 u89 u90 u91 u92 u93 u94 u95 u96 u97 u98 u99 u100 u101 u102 u103 u104 u105 u106 u107 u108 u109 u110 u111 u112 u113 u114 u115 u116 u117 u118 u119 u120 u121 u122 u123 u124 u125 u126 u127 u128 u129 : Value) (K : Act → World → Prop) (Q0 : Exit → Act → World → Prop) (hnl : nl = l.length) (hll : nl ≤ 9223372036854775807) (hrl : RdZ W W.heap.size A l) (hI : (i ≤ 208 ∧ BP W w b H (RB l i)))
    (hK : ∀ (v8 v24 v25 v26 v27 v28 v29 v30 v31 v32 v33 v34 v35 v36 v37 v38 v39 v40 v41 v42 v43 v44 : Value) (H2 : BH) (V : World), ((i + 1) ≤ 208 ∧ BP W V b H2 (RB l (i + 1))) → 208 - (i + 1) < 208 - i → K ⟨List.toArray (u0 :: (.slice A nl c) :: u2 :: u3 :: u4 :: (.pointer (some ⟨b, 0, none⟩)) :: u6 :: (.int .i64 (((i + 1) : Nat) : Int)) :: v8 :: u9 :: u10 :: u11 :: u12 :: u13 :: u14 :: u15 :: u16 :: u17 :: u18 :: u19 :: u20 :: u21 :: u22 :: u23 :: v24 :: v25 :: v26 :: v27 :: v28 :: v29 :: v30 :: v31 :: v32 :: v33 :: v34 :: v35 :: v36 :: v37 :: v38 :: v39 :: v40 :: v41 :: v42 :: v43 :: v44 :: u45 :: u46 :: u47 :: u48 :: u49 :: u50 :: u51 :: u52 :: u53 :: u54 :: u55 :: u56 :: u57 :: u58 :: u59 :: u60 :: u61 :: u62 :: u63 :: u64 :: u65 :: u66 :: u67 :: u68 :: u69 :: u70 :: u71 :: u72 :: u73 :: u74 :: u75 :: u76 :: u77 :: u78 :: u79 :: u80 :: u81 :: u82 :: u83 :: u84 :: u85 :: u86 :: u87 :: u88 :: u89 :: u90 :: u91 :: u92 :: u93 :: u94 :: u95 :: u96 :: u97 :: u98 :: u99 :: u100 :: u101 :: u102 :: u103 :: u104 :: u105 :: u106 :: u107 :: u108 :: u109 :: u110 :: u111 :: u112 :: u113 :: u114 :: u115 :: u116 :: u117 :: u118 :: u119 :: u120 :: u121 :: u122 :: u123 :: u124 :: u125 :: u126 :: u127 :: u128 :: u129 :: []), []⟩ V)
    (hX : ∀ (v8 v24 v25 v26 v27 v28 v29 v30 v31 v32 v33 v34 v35 v36 v37 v38 v39 v40 v41 v42 v43 v44 : Value), (i = 208) → Q0 (.exit 0) ⟨List.toArray (u0 :: (.slice A nl c) :: u2 :: u3 :: u4 :: (.pointer (some ⟨b, 0, none⟩)) :: u6 :: (.int .i64 ((i : Nat) : Int)) :: v8 :: u9 :: u10 :: u11 :: u12 :: u13 :: u14 :: u15 :: u16 :: u17 :: u18 :: u19 :: u20 :: u21 :: u22 :: u23 :: v24 :: v25 :: v26 :: v27 :: v28 :: v29 :: v30 :: v31 :: v32 :: v33 :: v34 :: v35 :: v36 :: v37 :: v38 :: v39 :: v40 :: v41 :: v42 :: v43 :: v44 :: u45 :: u46 :: u47 :: u48 :: u49 :: u50 :: u51 :: u52 :: u53 :: u54 :: u55 :: u56 :: u57 :: u58 :: u59 :: u60 :: u61 :: u62 :: u63 :: u64 :: u65 :: u66 :: u67 :: u68 :: u69 :: u70 :: u71 :: u72 :: u73 :: u74 :: u75 :: u76 :: u77 :: u78 :: u79 :: u80 :: u81 :: u82 :: u83 :: u84 :: u85 :: u86 :: u87 :: u88 :: u89 :: u90 :: u91 :: u92 :: u93 :: u94 :: u95 :: u96 :: u97 :: u98 :: u99 :: u100 :: u101 :: u102 :: u103 :: u104 :: u105 :: u106 :: u107 :: u108 :: u109 :: u110 :: u111 :: u112 :: u113 :: u114 :: u115 :: u116 :: u117 :: u118 :: u119 :: u120 :: u121 :: u122 :: u123 :: u124 :: u125 :: u126 :: u127 :: u128 :: u129 :: []), []⟩ w) :
    Code.wp Try.prog (sub [1, 1, 1, 0, 1, 0, 0] codeBR) (Exit.then K Q0) ⟨List.toArray (u0 :: (.slice A nl c) :: u2 :: u3 :: u4 :: (.pointer (some ⟨b, 0, none⟩)) :: u6 :: (.int .i64 ((i : Nat) : Int)) :: u8 :: u9 :: u10 :: u11 :: u12 :: u13 :: u14 :: u15 :: u16 :: u17 :: u18 :: u19 :: u20 :: u21 :: u22 :: u23 :: u24 :: u25 :: u26 :: u27 :: u28 :: u29 :: u30 :: u31 :: u32 :: u33 :: u34 :: u35 :: u36 :: u37 :: u38 :: u39 :: u40 :: u41 :: u42 :: u43 :: u44 :: u45 :: u46 :: u47 :: u48 :: u49 :: u50 :: u51 :: u52 :: u53 :: u54 :: u55 :: u56 :: u57 :: u58 :: u59 :: u60 :: u61 :: u62 :: u63 :: u64 :: u65 :: u66 :: u67 :: u68 :: u69 :: u70 :: u71 :: u72 :: u73 :: u74 :: u75 :: u76 :: u77 :: u78 :: u79 :: u80 :: u81 :: u82 :: u83 :: u84 :: u85 :: u86 :: u87 :: u88 :: u89 :: u90 :: u91 :: u92 :: u93 :: u94 :: u95 :: u96 :: u97 :: u98 :: u99 :: u100 :: u101 :: u102 :: u103 :: u104 :: u105 :: u106 :: u107 :: u108 :: u109 :: u110 :: u111 :: u112 :: u113 :: u114 :: u115 :: u116 :: u117 :: u118 :: u119 :: u120 :: u121 :: u122 :: u123 :: u124 :: u125 :: u126 :: u127 :: u128 :: u129 :: []), []⟩ w := by
  have HK := Lib.hid hK
  have HX := Lib.hid hX
  clear hK hX
  conv => arg 2; whnf
  obtain ⟨hi, hp⟩ := hI
  have Hp := Lib.hid hp
  by_cases hlt : i < 208
  · have i1 : (i : Int) < 208 := by omega
    have HS := RB_step l hlt
    have hw : IntKind.i64.wrap ((i : Int) + 1) = ((i + 1 : Nat) : Int) := by rw [IntKind.wrap_i64]; omega
    clear HX
    by_cases hil : i < nl
    · obtain ⟨lb, off, rfl, hlb, hcl⟩ := hrl.2.2 (by omega)
      have hc := (hp.bel.cell (p := ⟨lb, off + i, none⟩) hlb).trans (hcl i (by omega))
      have hbd := hrl.bd i
      rw [show valR l i = l.getD i 0 by unfold valR; rw [if_pos (by omega)]] at HS
      have HS := Lib.hid HS
      have i2 : (i : Int) < (nl : Int) := by omega
      have i3 : (0 : Int) ≤ (i : Int) := by omega
      generalize l.getD i 0 = z at hc hbd HS
      obtain ⟨hz1, hz2⟩ := hbd
      clear hp hcl hrl hnl
      go_wp2_with fail
      refine (sector_any _ _ (by omega)).mono ?_
      rintro e w1 ⟨g, rfl, ho, hb⟩
      have CW := Lib.hid (bp_write _ _ _ _ _ (Hp.out.grow hb) ((i : Int) % 4) ((i : Int) / 4) (sectorB z) (some ⟨g, 0, none⟩) 32 32 (sectorB_len _).symm ⟨by omega, by omega⟩ ⟨by omega, by omega⟩ ho.rdS.1 (fun j _ => RB_ps l i (by omega) j) (by show i ≤ _; omega))
      clear ho hb Hp
      go_wp2_with fail
      refine CW.out.mono ?_
      rintro e w2 ⟨rfl, H2, hp2, _, _⟩
      rw [HS.out.2] at hp2
      rw [HS.out.1]
      have Hp2 := Lib.hid hp2
      clear hp2
      go_wp2_with fail
      exact HK.out _ _ _ _ _ _ _ _ _ _ _ _ _ _ _ _ _ _ _ _ _ _ _ _ ⟨by omega, Hp2.out⟩ (by omega)
    · rw [show valR l i = (i : Int) by unfold valR; rw [if_neg (by omega)]] at HS
      have HS := Lib.hid HS
      have i2 : ¬ (i : Int) < (nl : Int) := by omega
      clear hp hrl hnl
      go_wp2_with fail
      refine (sector_any _ _ (by omega)).mono ?_
      rintro e w1 ⟨g, rfl, ho, hb⟩
      have CW := Lib.hid (bp_write _ _ _ _ _ (Hp.out.grow hb) ((i : Int) % 4) ((i : Int) / 4) (sectorB (i : Int)) (some ⟨g, 0, none⟩) 32 32 (sectorB_len _).symm ⟨by omega, by omega⟩ ⟨by omega, by omega⟩ ho.rdS.1 (fun j _ => RB_ps l i (by omega) j) (by show i ≤ _; omega))
      clear ho hb Hp
      go_wp2_with fail
      refine CW.out.mono ?_
      rintro e w2 ⟨rfl, H2, hp2, _, _⟩
      rw [HS.out.2] at hp2
      rw [HS.out.1]
      have Hp2 := Lib.hid hp2
      clear hp2
      go_wp2_with fail
      exact HK.out _ _ _ _ _ _ _ _ _ _ _ _ _ _ _ _ _ _ _ _ _ _ _ _ ⟨by omega, Hp2.out⟩ (by omega)
  · have Hin := Lib.hid (show i = 208 by omega)
    have i1 : ¬ (i : Int) < 208 := by omega
    clear HK hp hrl hnl
    go_wp2_with fail
    exact HX.out _ _ _ _ _ _ _ _ _ _ _ _ _ _ _ _ _ _ _ _ _ _ Hin.out
set_option maxRecDepth 100000 in
set_option maxHeartbeats 3200000 in
theorem brA {W : World} {b nl c : Nat} {A : Option Addr} {l : List Int} {H0 : BH} {w : World} (u0 u2 u3 u4 u6 u8 u9 u10 u11 u12 u13 u14 u15 u16 u17 u18 u19 u20 u21 u22 u23 u24 u25 u26 u27 u28 u29 u30 u31 u32 u33 u34 u35 u36 u37 u38 u39 u40 u41 u42 u43 u44 u45 u46 u47 u48 u49 u50 u51 u52 u53 u54 u55 u56 u57 u58 u59 u60 u61 u62 u63 u64 u65 u66 u67 u68 u69 u70 u71 u72 u73 u74 u75 u76 u77 u78 u79 u80 u81 u82 u83 u84 u85 u86 u87 u88 u89 u90 u91 u92 u93 u94 u95 u96 u97 u98 u99 u100 u101 u102 u103 u104 u105 u106 u107 u108 u109 u110 u111 u112 u113 u114 u115 u116 u117 u118 u119 u120 u121 u122 u123 u124 u125 u126 u127 u128 u129 : Value) (Q : Exit → Act → World → Prop) (hnl : nl = l.length) (hll : nl ≤ 9223372036854775807) (hrl : RdZ W W.heap.size A l) (hI : (0 ≤ 208 ∧ BP W w b H0 (RB l 0)))
    (hX : ∀ (v8 v24 v25 v26 v27 v28 v29 v30 v31 v32 v33 v34 v35 v36 v37 v38 v39 v40 v41 v42 v43 v44 : Value) (i : Nat) (H : BH) (V : World), (i ≤ 208 ∧ BP W V b H (RB l i)) → (i = 208) → Q (.exit 0) ⟨List.toArray (u0 :: (.slice A nl c) :: u2 :: u3 :: u4 :: (.pointer (some ⟨b, 0, none⟩)) :: u6 :: (.int .i64 ((i : Nat) : Int)) :: v8 :: u9 :: u10 :: u11 :: u12 :: u13 :: u14 :: u15 :: u16 :: u17 :: u18 :: u19 :: u20 :: u21 :: u22 :: u23 :: v24 :: v25 :: v26 :: v27 :: v28 :: v29 :: v30 :: v31 :: v32 :: v33 :: v34 :: v35 :: v36 :: v37 :: v38 :: v39 :: v40 :: v41 :: v42 :: v43 :: v44 :: u45 :: u46 :: u47 :: u48 :: u49 :: u50 :: u51 :: u52 :: u53 :: u54 :: u55 :: u56 :: u57 :: u58 :: u59 :: u60 :: u61 :: u62 :: u63 :: u64 :: u65 :: u66 :: u67 :: u68 :: u69 :: u70 :: u71 :: u72 :: u73 :: u74 :: u75 :: u76 :: u77 :: u78 :: u79 :: u80 :: u81 :: u82 :: u83 :: u84 :: u85 :: u86 :: u87 :: u88 :: u89 :: u90 :: u91 :: u92 :: u93 :: u94 :: u95 :: u96 :: u97 :: u98 :: u99 :: u100 :: u101 :: u102 :: u103 :: u104 :: u105 :: u106 :: u107 :: u108 :: u109 :: u110 :: u111 :: u112 :: u113 :: u114 :: u115 :: u116 :: u117 :: u118 :: u119 :: u120 :: u121 :: u122 :: u123 :: u124 :: u125 :: u126 :: u127 :: u128 :: u129 :: []), []⟩ V) :
    Code.wp Try.prog (.loop (sub [1, 1, 1, 0, 1, 0, 0] codeBR)) Q ⟨List.toArray (u0 :: (.slice A nl c) :: u2 :: u3 :: u4 :: (.pointer (some ⟨b, 0, none⟩)) :: u6 :: (.int .i64 ((0 : Nat) : Int)) :: u8 :: u9 :: u10 :: u11 :: u12 :: u13 :: u14 :: u15 :: u16 :: u17 :: u18 :: u19 :: u20 :: u21 :: u22 :: u23 :: u24 :: u25 :: u26 :: u27 :: u28 :: u29 :: u30 :: u31 :: u32 :: u33 :: u34 :: u35 :: u36 :: u37 :: u38 :: u39 :: u40 :: u41 :: u42 :: u43 :: u44 :: u45 :: u46 :: u47 :: u48 :: u49 :: u50 :: u51 :: u52 :: u53 :: u54 :: u55 :: u56 :: u57 :: u58 :: u59 :: u60 :: u61 :: u62 :: u63 :: u64 :: u65 :: u66 :: u67 :: u68 :: u69 :: u70 :: u71 :: u72 :: u73 :: u74 :: u75 :: u76 :: u77 :: u78 :: u79 :: u80 :: u81 :: u82 :: u83 :: u84 :: u85 :: u86 :: u87 :: u88 :: u89 :: u90 :: u91 :: u92 :: u93 :: u94 :: u95 :: u96 :: u97 :: u98 :: u99 :: u100 :: u101 :: u102 :: u103 :: u104 :: u105 :: u106 :: u107 :: u108 :: u109 :: u110 :: u111 :: u112 :: u113 :: u114 :: u115 :: u116 :: u117 :: u118 :: u119 :: u120 :: u121 :: u122 :: u123 :: u124 :: u125 :: u126 :: u127 :: u128 :: u129 :: []), []⟩ w := by
  refine wp_loop_ghost (fun k a V => ∀ C : Prop, (∀ (u8 u24 u25 u26 u27 u28 u29 u30 u31 u32 u33 u34 u35 u36 u37 u38 u39 u40 u41 u42 u43 u44 : Value) (i : Nat) (H : BH), k = 208 - i → (i ≤ 208 ∧ BP W V b H (RB l i)) → a = ⟨List.toArray (u0 :: (.slice A nl c) :: u2 :: u3 :: u4 :: (.pointer (some ⟨b, 0, none⟩)) :: u6 :: (.int .i64 ((i : Nat) : Int)) :: u8 :: u9 :: u10 :: u11 :: u12 :: u13 :: u14 :: u15 :: u16 :: u17 :: u18 :: u19 :: u20 :: u21 :: u22 :: u23 :: u24 :: u25 :: u26 :: u27 :: u28 :: u29 :: u30 :: u31 :: u32 :: u33 :: u34 :: u35 :: u36 :: u37 :: u38 :: u39 :: u40 :: u41 :: u42 :: u43 :: u44 :: u45 :: u46 :: u47 :: u48 :: u49 :: u50 :: u51 :: u52 :: u53 :: u54 :: u55 :: u56 :: u57 :: u58 :: u59 :: u60 :: u61 :: u62 :: u63 :: u64 :: u65 :: u66 :: u67 :: u68 :: u69 :: u70 :: u71 :: u72 :: u73 :: u74 :: u75 :: u76 :: u77 :: u78 :: u79 :: u80 :: u81 :: u82 :: u83 :: u84 :: u85 :: u86 :: u87 :: u88 :: u89 :: u90 :: u91 :: u92 :: u93 :: u94 :: u95 :: u96 :: u97 :: u98 :: u99 :: u100 :: u101 :: u102 :: u103 :: u104 :: u105 :: u106 :: u107 :: u108 :: u109 :: u110 :: u111 :: u112 :: u113 :: u114 :: u115 :: u116 :: u117 :: u118 :: u119 :: u120 :: u121 :: u122 :: u123 :: u124 :: u125 :: u126 :: u127 :: u128 :: u129 :: []), []⟩ → C) → C) (208 - 0) ?_ ?_
  · intro C hC
    exact hC _ _ _ _ _ _ _ _ _ _ _ _ _ _ _ _ _ _ _ _ _ _ (0) (H0) rfl hI rfl
  · intro k a V hI'
    refine hI' _ ?_
    intro u8 u24 u25 u26 u27 u28 u29 u30 u31 u32 u33 u34 u35 u36 u37 u38 u39 u40 u41 u42 u43 u44 i H hk hinv ha
    subst ha
    subst hk
    refine brAb _ _ _ _ _ _ _ _ _ _ _ _ _ _ _ _ _ _ _ _ _ _ _ _ _ _ _ _ _ _ _ _ _ _ _ _ _ _ _ _ _ _ _ _ _ _ _ _ _ _ _ _ _ _ _ _ _ _ _ _ _ _ _ _ _ _ _ _ _ _ _ _ _ _ _ _ _ _ _ _ _ _ _ _ _ _ _ _ _ _ _ _ _ _ _ _ _ _ _ _ _ _ _ _ _ _ _ _ _ _ _ _ _ _ _ _ _ _ _ _ _ _ _ _ _ _ _ _ _ hnl hll hrl hinv (fun v8 v24 v25 v26 v27 v28 v29 v30 v31 v32 v33 v34 v35 v36 v37 v38 v39 v40 v41 v42 v43 v44 H2 V2 h2 hm => ?_) (fun v8 v24 v25 v26 v27 v28 v29 v30 v31 v32 v33 v34 v35 v36 v37 v38 v39 v40 v41 v42 v43 v44 hx => hX v8 v24 v25 v26 v27 v28 v29 v30 v31 v32 v33 v34 v35 v36 v37 v38 v39 v40 v41 v42 v43 v44 i H V hinv hx)
    refine ⟨_, hm, fun C hC => ?_⟩
    exact hC v8 v24 v25 v26 v27 v28 v29 v30 v31 v32 v33 v34 v35 v36 v37 v38 v39 v40 v41 v42 v43 v44 ((i + 1)) (H2) rfl h2 rfl
set_option maxRecDepth 100000 in
set_option maxHeartbeats 3200000 in
theorem br12 {W : World} {b d : Nat} {l : List Int} {H : BH} {w : World} (u1 u2 u3 u4 u6 u7 u8 u9 u10 u11 u12 u13 u14 u15 u16 u17 u18 u19 u20 u21 u22 u23 u24 u25 u26 u27 u28 u29 u30 u31 u32 u33 u34 u35 u36 u37 u38 u39 u40 u41 u42 u43 u44 u45 u46 u47 u48 u49 u50 u51 u52 u53 u54 u55 u56 u57 u58 u59 u60 u61 u62 u63 u64 u65 u66 u67 u68 u69 u70 u71 u72 u73 u74 u75 u76 u77 u78 u79 u80 u81 u82 u83 u84 u85 u86 u87 u88 u89 u90 u91 u92 u93 u94 u95 u96 u97 u98 u99 u100 u101 u102 u103 u104 u105 u106 u107 u108 u109 u110 u111 u112 u113 u114 u115 u116 u117 u118 u119 u120 u121 u122 u123 u124 u125 u126 u127 u128 u129 : Value) (K : Act → World → Prop) (Q0 : Exit → Act → World → Prop) (hd : d < 4) (hp : BP W w b H (RB l 208))
    (hK : ∀ (v47 v48 v49 v50 v51 v52 v53 v54 v55 v56 v57 v58 v59 v60 v61 v62 v63 v64 v65 v66 v67 v68 v69 v70 v71 v72 v73 v74 v75 v76 v77 v78 v79 v80 v81 v82 v83 : Value) (H2 : BH) (V : World), BP W V b H2 (RN l d) → K ⟨List.toArray ((.int .i64 (d : Int)) :: u1 :: u2 :: u3 :: u4 :: (.pointer (some ⟨b, 0, none⟩)) :: u6 :: u7 :: u8 :: u9 :: u10 :: u11 :: u12 :: u13 :: u14 :: u15 :: u16 :: u17 :: u18 :: u19 :: u20 :: u21 :: u22 :: u23 :: u24 :: u25 :: u26 :: u27 :: u28 :: u29 :: u30 :: u31 :: u32 :: u33 :: u34 :: u35 :: u36 :: u37 :: u38 :: u39 :: u40 :: u41 :: u42 :: u43 :: u44 :: u45 :: u46 :: v47 :: v48 :: v49 :: v50 :: v51 :: v52 :: v53 :: v54 :: v55 :: v56 :: v57 :: v58 :: v59 :: v60 :: v61 :: v62 :: v63 :: v64 :: v65 :: v66 :: v67 :: v68 :: v69 :: v70 :: v71 :: v72 :: v73 :: v74 :: v75 :: v76 :: v77 :: v78 :: v79 :: v80 :: v81 :: v82 :: v83 :: (.bool false) :: u85 :: u86 :: u87 :: u88 :: u89 :: u90 :: u91 :: u92 :: u93 :: u94 :: u95 :: u96 :: u97 :: u98 :: u99 :: u100 :: u101 :: u102 :: u103 :: u104 :: u105 :: u106 :: u107 :: u108 :: u109 :: u110 :: u111 :: u112 :: u113 :: u114 :: u115 :: u116 :: u117 :: u118 :: u119 :: u120 :: u121 :: u122 :: u123 :: u124 :: u125 :: u126 :: u127 :: u128 :: u129 :: []), []⟩ V) :
    Code.wp Try.prog (sub [1, 1, 1, 1, 1, 0, 0] codeBR) (Exit.then K Q0) ⟨List.toArray ((.int .i64 (d : Int)) :: u1 :: u2 :: u3 :: u4 :: (.pointer (some ⟨b, 0, none⟩)) :: u6 :: u7 :: u8 :: u9 :: u10 :: u11 :: u12 :: u13 :: u14 :: u15 :: u16 :: u17 :: u18 :: u19 :: u20 :: u21 :: u22 :: u23 :: u24 :: u25 :: u26 :: u27 :: u28 :: u29 :: u30 :: u31 :: u32 :: u33 :: u34 :: u35 :: u36 :: u37 :: u38 :: u39 :: u40 :: u41 :: u42 :: u43 :: u44 :: u45 :: u46 :: u47 :: u48 :: u49 :: u50 :: u51 :: u52 :: u53 :: u54 :: u55 :: u56 :: u57 :: u58 :: u59 :: u60 :: u61 :: u62 :: u63 :: u64 :: u65 :: u66 :: u67 :: u68 :: u69 :: u70 :: u71 :: u72 :: u73 :: u74 :: u75 :: u76 :: u77 :: u78 :: u79 :: u80 :: u81 :: u82 :: u83 :: u84 :: u85 :: u86 :: u87 :: u88 :: u89 :: u90 :: u91 :: u92 :: u93 :: u94 :: u95 :: u96 :: u97 :: u98 :: u99 :: u100 :: u101 :: u102 :: u103 :: u104 :: u105 :: u106 :: u107 :: u108 :: u109 :: u110 :: u111 :: u112 :: u113 :: u114 :: u115 :: u116 :: u117 :: u118 :: u119 :: u120 :: u121 :: u122 :: u123 :: u124 :: u125 :: u126 :: u127 :: u128 :: u129 :: []), []⟩ w := by
  have HK := Lib.hid hK
  clear hK
  conv => arg 2; whnf
  have hdi : i64B (d : Int) := ⟨by omega, by omega⟩
  have C1 := bp_fail _ _ _ _ _ hp (d : Int) hdi
  rw [pick4 hd (RB l 208) rfl, RB_fail l hd] at C1
  have C1 := Lib.hid C1
  have C2 := Lib.hid (fun (V : World) (H : BH) (h : BP W V b H (RF l d)) => (show Calls Try.prog 18 #[.pointer (some ⟨b, 0, none⟩), .int .i64 (d : Int)] V (fun e w' => e = .returned (.int .i64 0) ∧ BC W V w' b H (RF l d).n (RF l d)) by
    have := bp_fail _ _ _ _ _ h (d : Int) hdi
    rw [pick4 hd (RF l d) rfl, RF_fail l hd] at this
    exact this))
  have C3 := Lib.hid (fun (V : World) (H : BH) (h : BP W V b H (RF l d)) => (show Calls Try.prog 19 #[.pointer (some ⟨b, 0, none⟩), .int .i64 (d : Int)] V (fun e w' => e = .returned (.bool true) ∧ w' = V) by
    have := bp_failed _ _ _ _ _ h (d : Int) hdi
    rw [RF_failed l hd] at this
    exact this))
  have C4 := Lib.hid (fun (V : World) (H : BH) (h : BP W V b H (RF l d)) => (show Calls Try.prog 16 #[.pointer (some ⟨b, 0, none⟩)] V (fun e w' => e = .returned (.int .i64 156) ∧ Below V.heap.size V w') by
    have := bp_pending _ _ _ _ _ h (fun j _ => RF_ps l j)
    rw [RF_pend l hd] at this
    exact this))
  have C5 := Lib.hid (fun (V : World) (H : BH) (h : BP W V b H (RF l d)) => (show Calls Try.prog 20 #[.pointer (some ⟨b, 0, none⟩), .int .i64 (d : Int)] V (fun e w' => e = .returned (.int .i64 0) ∧ BC W V w' b H (RF l d).n (RN l d)) by
    have := bp_replace _ _ _ _ _ h (d : Int) hdi
    rw [(RF_replace l hd).1, (RF_replace l hd).2] at this
    exact this))
  have C6 := Lib.hid (fun (V : World) (H : BH) (h : BP W V b H (RN l d)) => (show Calls Try.prog 19 #[.pointer (some ⟨b, 0, none⟩), .int .i64 (d : Int)] V (fun e w' => e = .returned (.bool false) ∧ w' = V) by
    have := bp_failed _ _ _ _ _ h (d : Int) hdi
    rw [RN_failed l hd] at this
    exact this))
  have C7 := Lib.hid (fun (V : World) (H : BH) (h : BP W V b H (RN l d)) => (show Calls Try.prog 20 #[.pointer (some ⟨b, 0, none⟩), .int .i64 (d : Int)] V (fun e w' => e = .returned (.int .i64 9) ∧ BC W V w' b H (RN l d).n (RN l d)) by
    have := bp_replace _ _ _ _ _ h (d : Int) hdi
    rw [(RN_replace l hd).1, (RN_replace l hd).2] at this
    exact this))
  clear hp hdi
  go_wp2_with (first
    | (go_at_call 20; refine (C7.out _ _ Hp5.out).mono ?_; rintro e w7 ⟨rfl, H7, hp7, _, _⟩; have Hp7 := Lib.hid hp7; clear hp7)
    | (go_at_call 20; refine (C5.out _ _ Hp4.out).mono ?_; rintro e w5 ⟨rfl, H5, hp5, _, _⟩; have Hp5 := Lib.hid hp5; clear hp5)
    | (go_at_call 19; refine (C6.out _ _ Hp5.out).mono ?_; rintro e w6 ⟨rfl, rfl⟩)
    | (go_at_call 19; refine (C3.out _ _ Hp2.out).mono ?_; rintro e w3 ⟨rfl, rfl⟩)
    | (go_at_call 16; refine (C4.out _ _ Hp2.out).mono ?_; rintro e w4 ⟨rfl, hb4⟩; have Hp4 := Lib.hid (Hp2.out.grow hb4); clear hb4)
    | (go_at_call 18; refine (C2.out _ _ Hp1.out).mono ?_; rintro e w2 ⟨rfl, H2, hp2, _, _⟩; have Hp2 := Lib.hid hp2; clear hp2)
    | (go_at_call 18; refine C1.out.mono ?_; rintro e w1 ⟨rfl, H1, hp1, _, _⟩; have Hp1 := Lib.hid hp1; clear hp1))
  exact HK.out _ _ _ _ _ _ _ _ _ _ _ _ _ _ _ _ _ _ _ _ _ _ _ _ _ _ _ _ _ _ _ _ _ _ _ _ _ _ _ Hp7.out
set_option maxRecDepth 100000 in
set_option maxHeartbeats 3200000 in
theorem brBb {W : World} {b nl c d : Nat} {A : Option Addr} {l : List Int} {H : BH} {i : Nat} {w : World} (u2 u3 u4 u6 u7 u8 u10 u11 u12 u13 u14 u15 u16 u17 u18 u19 u20 u21 u22 u23 u24 u25 u26 u27 u28 u29 u30 u31 u32 u33 u34 u35 u36 u37 u38 u39 u40 u41 u42 u43 u44 u45 u46 u47 u48 u49 u50 u51 u52 u53 u54 u55 u56 u57 u58 u59 u60 u61 u62 u63 u64 u65 u66 u67 u68 u69 u70 u71 u72 u73 u74 u75 u76 u77 u78 u79 u80 u81 u82 u83 u84 u85 u86 u87 u88 u89 u90 u91 u92 u93 u94 u95 u96 u97 u98 u99 u100 u101 u102 u103 u104 u105 u106 u107 u108 u109 u110 u111 u112 u113 u114 u115 u116 u117 u118 u119 u120 u121 u122 u123 u124 u125 u126 u127 u128 u129 : Value) (K : Act → World → Prop) (Q0 : Exit → Act → World → Prop) (hd : d < 4) (hnl : nl = l.length) (hll : nl ≤ 9223372036854775807) (hrl : RdZ W W.heap.size A l) (hI : (i ≤ 208 ∧ BP W w b H (RN l d)))
    (hK : ∀ (v4 v10 v11 v12 v13 v85 v86 v87 v88 v89 v90 v91 v92 v93 v94 v95 v96 v97 v98 v99 v100 v101 v102 v103 v104 v105 v106 v107 v108 v109 v110 v111 v112 v113 v114 v115 v116 v117 v118 v119 v120 v121 : Value)  (V : World), ((i + 1) ≤ 208 ∧ BP W V b H (RN l d)) → 208 - (i + 1) < 208 - i → K ⟨List.toArray ((.int .i64 (d : Int)) :: (.slice A nl c) :: u2 :: u3 :: v4 :: (.pointer (some ⟨b, 0, none⟩)) :: u6 :: u7 :: u8 :: (.int .i64 (((i + 1) : Nat) : Int)) :: v10 :: v11 :: v12 :: v13 :: u14 :: u15 :: u16 :: u17 :: u18 :: u19 :: u20 :: u21 :: u22 :: u23 :: u24 :: u25 :: u26 :: u27 :: u28 :: u29 :: u30 :: u31 :: u32 :: u33 :: u34 :: u35 :: u36 :: u37 :: u38 :: u39 :: u40 :: u41 :: u42 :: u43 :: u44 :: u45 :: u46 :: u47 :: u48 :: u49 :: u50 :: u51 :: u52 :: u53 :: u54 :: u55 :: u56 :: u57 :: u58 :: u59 :: u60 :: u61 :: u62 :: u63 :: u64 :: u65 :: u66 :: u67 :: u68 :: u69 :: u70 :: u71 :: u72 :: u73 :: u74 :: u75 :: u76 :: u77 :: u78 :: u79 :: u80 :: u81 :: u82 :: u83 :: u84 :: v85 :: v86 :: v87 :: v88 :: v89 :: v90 :: v91 :: v92 :: v93 :: v94 :: v95 :: v96 :: v97 :: v98 :: v99 :: v100 :: v101 :: v102 :: v103 :: v104 :: v105 :: v106 :: v107 :: v108 :: v109 :: v110 :: v111 :: v112 :: v113 :: v114 :: v115 :: v116 :: v117 :: v118 :: v119 :: v120 :: v121 :: u122 :: u123 :: u124 :: u125 :: u126 :: u127 :: u128 :: u129 :: []), []⟩ V)
    (hX : ∀ (v4 v10 v11 v12 v13 v85 v86 v87 v88 v89 v90 v91 v92 v93 v94 v95 v96 v97 v98 v99 v100 v101 v102 v103 v104 v105 v106 v107 v108 v109 v110 v111 v112 v113 v114 v115 v116 v117 v118 v119 v120 v121 : Value), (i = 208) → Q0 (.exit 2) ⟨List.toArray ((.int .i64 (d : Int)) :: (.slice A nl c) :: u2 :: u3 :: v4 :: (.pointer (some ⟨b, 0, none⟩)) :: u6 :: u7 :: u8 :: (.int .i64 ((i : Nat) : Int)) :: v10 :: v11 :: v12 :: v13 :: u14 :: u15 :: u16 :: u17 :: u18 :: u19 :: u20 :: u21 :: u22 :: u23 :: u24 :: u25 :: u26 :: u27 :: u28 :: u29 :: u30 :: u31 :: u32 :: u33 :: u34 :: u35 :: u36 :: u37 :: u38 :: u39 :: u40 :: u41 :: u42 :: u43 :: u44 :: u45 :: u46 :: u47 :: u48 :: u49 :: u50 :: u51 :: u52 :: u53 :: u54 :: u55 :: u56 :: u57 :: u58 :: u59 :: u60 :: u61 :: u62 :: u63 :: u64 :: u65 :: u66 :: u67 :: u68 :: u69 :: u70 :: u71 :: u72 :: u73 :: u74 :: u75 :: u76 :: u77 :: u78 :: u79 :: u80 :: u81 :: u82 :: u83 :: u84 :: v85 :: v86 :: v87 :: v88 :: v89 :: v90 :: v91 :: v92 :: v93 :: v94 :: v95 :: v96 :: v97 :: v98 :: v99 :: v100 :: v101 :: v102 :: v103 :: v104 :: v105 :: v106 :: v107 :: v108 :: v109 :: v110 :: v111 :: v112 :: v113 :: v114 :: v115 :: v116 :: v117 :: v118 :: v119 :: v120 :: v121 :: u122 :: u123 :: u124 :: u125 :: u126 :: u127 :: u128 :: u129 :: []), []⟩ w) :
    Code.wp Try.prog (sub [1, 1, 1, 1, 1, 1, 0, 1, 0, 0] codeBR) (Exit.then K Q0) ⟨List.toArray ((.int .i64 (d : Int)) :: (.slice A nl c) :: u2 :: u3 :: u4 :: (.pointer (some ⟨b, 0, none⟩)) :: u6 :: u7 :: u8 :: (.int .i64 ((i : Nat) : Int)) :: u10 :: u11 :: u12 :: u13 :: u14 :: u15 :: u16 :: u17 :: u18 :: u19 :: u20 :: u21 :: u22 :: u23 :: u24 :: u25 :: u26 :: u27 :: u28 :: u29 :: u30 :: u31 :: u32 :: u33 :: u34 :: u35 :: u36 :: u37 :: u38 :: u39 :: u40 :: u41 :: u42 :: u43 :: u44 :: u45 :: u46 :: u47 :: u48 :: u49 :: u50 :: u51 :: u52 :: u53 :: u54 :: u55 :: u56 :: u57 :: u58 :: u59 :: u60 :: u61 :: u62 :: u63 :: u64 :: u65 :: u66 :: u67 :: u68 :: u69 :: u70 :: u71 :: u72 :: u73 :: u74 :: u75 :: u76 :: u77 :: u78 :: u79 :: u80 :: u81 :: u82 :: u83 :: u84 :: u85 :: u86 :: u87 :: u88 :: u89 :: u90 :: u91 :: u92 :: u93 :: u94 :: u95 :: u96 :: u97 :: u98 :: u99 :: u100 :: u101 :: u102 :: u103 :: u104 :: u105 :: u106 :: u107 :: u108 :: u109 :: u110 :: u111 :: u112 :: u113 :: u114 :: u115 :: u116 :: u117 :: u118 :: u119 :: u120 :: u121 :: u122 :: u123 :: u124 :: u125 :: u126 :: u127 :: u128 :: u129 :: []), []⟩ w := by
  have HK := Lib.hid hK
  have HX := Lib.hid hX
  clear hK hX
  conv => arg 2; whnf
  obtain ⟨hi, hp⟩ := hI
  have Hp := Lib.hid hp
  have hmk := makeS
  by_cases hlt : i < 208
  · have i1 : (i : Int) < 208 := by omega
    have CR : ∀ V, BP W V b H (RN l d) → Calls Try.prog 13 #[.pointer (some ⟨b, 0, none⟩), .int .i64 ((i : Int) % 4), .int .i64 ((i : Int) / 4)] V (fun e w' => ∃ v, e = .returned (.tuple #[v, .int .i64 0]) ∧ OwB 5 w' V.heap.size v (if i % 4 = d then List.replicate 32 0 else sectorB (valR l i)) ∧ Below V.heap.size V w') := fun V hV => by
      have hr := Bch.read_ok (N := RN l d) (d := i % 4) (k := i / 4) (Nat.mod_lt _ (by decide)) (by omega) (RN_f l _) rfl
      rw [RN_sec l hd i hlt, show ((i % 4 : Nat) : Int) = (i : Int) % 4 by omega, show ((i / 4 : Nat) : Int) = (i : Int) / 4 by omega] at hr
      have := bp_read _ _ _ _ _ hV ((i : Int) % 4) ((i : Int) / 4) ⟨by omega, by omega⟩ ⟨by omega, by omega⟩
      rw [hr.1, hr.2] at this
      exact this
    have hw : IntKind.i64.wrap ((i : Int) + 1) = ((i + 1 : Nat) : Int) := by rw [IntKind.wrap_i64]; omega
    clear HX
    by_cases hil : i < nl
    · obtain ⟨lb, off, rfl, hlb, hcl⟩ := hrl.2.2 (by omega)
      have hc := (hp.bel.cell (p := ⟨lb, off + i, none⟩) hlb).trans (hcl i (by omega))
      have hbd := hrl.bd i
      rw [show valR l i = l.getD i 0 by unfold valR; rw [if_pos (by omega)]] at CR
      have i2 : (i : Int) < (nl : Int) := by omega
      have i3 : (0 : Int) ≤ (i : Int) := by omega
      generalize l.getD i 0 = z at hc hbd CR
      have CRH := Lib.hid CR
      obtain ⟨hz1, hz2⟩ := hbd
      clear hp hcl hrl hnl CR
      go_wp2_with fail
      have CR := CRH.out
      clear CRH
      refine (sector_any _ _ (by omega)).mono ?_
      rintro e w1 ⟨g, rfl, ho, hb⟩
      have Hp1 := Lib.hid (Hp.out.grow hb)
      have Hr1 := Lib.hid ho.rdS.1
      clear ho hb Hp
      by_cases c4 : i % 4 = d
      · rw [if_pos c4] at CR
        have CR := Lib.hid CR
        have hbe : ((i : Int) % 4 == (d : Int)) = true := by rw [beq_iff_eq]; omega
        have Hz := Lib.hid (own_make 5 w1 32 (by omega)).rdS.1
        have Hp2 := Lib.hid (Hp1.out.alloc (.cells (zcells 32) 5))
        clear c4 Hp1 Hr1
        go_wp2_with fail
        refine (CR.out _ Hp2.out).mono ?_
        rintro e w3 ⟨v, rfl, ho3, hb3⟩
        obtain ⟨A3, c3, rfl, _, hrd3⟩ := ho3.rd
        have CS := Lib.hid (same_eq A3 _ 32 c3 32 w3.heap.size (List.replicate 32 0) w3 rfl hrd3 ((Hz.out.below hb3 (Nat.le_refl _)).more hb3.size))
        have Hp3 := Lib.hid (Hp2.out.grow hb3)
        rw [show (List.replicate 32 (0 : UInt8)).length = 32 from rfl]
        clear ho3 hb3 hrd3
        go_wp2_with (first | (go_at_call 14; refine CS.out.mono ?_; rintro e w4 ⟨rfl, hb4⟩; have Hp4 := Lib.hid (Hp3.out.grow hb4); clear hb4))
        exact HK.out _ _ _ _ _ _ _ _ _ _ _ _ _ _ _ _ _ _ _ _ _ _ _ _ _ _ _ _ _ _ _ _ _ _ _ _ _ _ _ _ _ _ _ ⟨by omega, Hp4.out⟩ (by omega)
      · rw [if_neg c4] at CR
        have CR := Lib.hid CR
        have hbe : ((i : Int) % 4 == (d : Int)) = false := by rw [beq_eq_false_iff_ne]; omega
        clear c4
        go_wp2_with fail
        refine (CR.out _ Hp1.out).mono ?_
        rintro e w3 ⟨v, rfl, ho3, hb3⟩
        obtain ⟨A3, c3, rfl, _, hrd3⟩ := ho3.rd
        have CS := Lib.hid (same_eq A3 _ 32 c3 32 w3.heap.size (sectorB z) w3 (sectorB_len _).symm hrd3 ((Hr1.out.below hb3 (Nat.le_refl _)).more hb3.size))
        have Hp3 := Lib.hid (Hp1.out.grow hb3)
        rw [sectorB_len]
        clear ho3 hb3 hrd3
        go_wp2_with (first | (go_at_call 14; refine CS.out.mono ?_; rintro e w4 ⟨rfl, hb4⟩; have Hp4 := Lib.hid (Hp3.out.grow hb4); clear hb4))
        exact HK.out _ _ _ _ _ _ _ _ _ _ _ _ _ _ _ _ _ _ _ _ _ _ _ _ _ _ _ _ _ _ _ _ _ _ _ _ _ _ _ _ _ _ _ ⟨by omega, Hp4.out⟩ (by omega)
    · rw [show valR l i = (i : Int) by unfold valR; rw [if_neg (by omega)]] at CR
      have i2 : ¬ (i : Int) < (nl : Int) := by omega
      have CRH := Lib.hid CR
      clear hp hrl hnl CR
      go_wp2_with fail
      have CR := CRH.out
      clear CRH
      refine (sector_any _ _ (by omega)).mono ?_
      rintro e w1 ⟨g, rfl, ho, hb⟩
      have Hp1 := Lib.hid (Hp.out.grow hb)
      have Hr1 := Lib.hid ho.rdS.1
      clear ho hb Hp
      by_cases c4 : i % 4 = d
      · rw [if_pos c4] at CR
        have CR := Lib.hid CR
        have hbe : ((i : Int) % 4 == (d : Int)) = true := by rw [beq_iff_eq]; omega
        have Hz := Lib.hid (own_make 5 w1 32 (by omega)).rdS.1
        have Hp2 := Lib.hid (Hp1.out.alloc (.cells (zcells 32) 5))
        clear c4 Hp1 Hr1
        go_wp2_with fail
        refine (CR.out _ Hp2.out).mono ?_
        rintro e w3 ⟨v, rfl, ho3, hb3⟩
        obtain ⟨A3, c3, rfl, _, hrd3⟩ := ho3.rd
        have CS := Lib.hid (same_eq A3 _ 32 c3 32 w3.heap.size (List.replicate 32 0) w3 rfl hrd3 ((Hz.out.below hb3 (Nat.le_refl _)).more hb3.size))
        have Hp3 := Lib.hid (Hp2.out.grow hb3)
        rw [show (List.replicate 32 (0 : UInt8)).length = 32 from rfl]
        clear ho3 hb3 hrd3
        go_wp2_with (first | (go_at_call 14; refine CS.out.mono ?_; rintro e w4 ⟨rfl, hb4⟩; have Hp4 := Lib.hid (Hp3.out.grow hb4); clear hb4))
        exact HK.out _ _ _ _ _ _ _ _ _ _ _ _ _ _ _ _ _ _ _ _ _ _ _ _ _ _ _ _ _ _ _ _ _ _ _ _ _ _ _ _ _ _ _ ⟨by omega, Hp4.out⟩ (by omega)
      · rw [if_neg c4] at CR
        have CR := Lib.hid CR
        have hbe : ((i : Int) % 4 == (d : Int)) = false := by rw [beq_eq_false_iff_ne]; omega
        clear c4
        go_wp2_with fail
        refine (CR.out _ Hp1.out).mono ?_
        rintro e w3 ⟨v, rfl, ho3, hb3⟩
        obtain ⟨A3, c3, rfl, _, hrd3⟩ := ho3.rd
        have CS := Lib.hid (same_eq A3 _ 32 c3 32 w3.heap.size (sectorB (i : Int)) w3 (sectorB_len _).symm hrd3 ((Hr1.out.below hb3 (Nat.le_refl _)).more hb3.size))
        have Hp3 := Lib.hid (Hp1.out.grow hb3)
        rw [sectorB_len]
        clear ho3 hb3 hrd3
        go_wp2_with (first | (go_at_call 14; refine CS.out.mono ?_; rintro e w4 ⟨rfl, hb4⟩; have Hp4 := Lib.hid (Hp3.out.grow hb4); clear hb4))
        exact HK.out _ _ _ _ _ _ _ _ _ _ _ _ _ _ _ _ _ _ _ _ _ _ _ _ _ _ _ _ _ _ _ _ _ _ _ _ _ _ _ _ _ _ _ ⟨by omega, Hp4.out⟩ (by omega)
  · have Hin := Lib.hid (show i = 208 by omega)
    have i1 : ¬ (i : Int) < 208 := by omega
    clear HK hp hrl hnl
    go_wp2_with fail
    exact HX.out _ _ _ _ _ _ _ _ _ _ _ _ _ _ _ _ _ _ _ _ _ _ _ _ _ _ _ _ _ _ _ _ _ _ _ _ _ _ _ _ _ _ Hin.out
set_option maxRecDepth 100000 in
set_option maxHeartbeats 3200000 in
theorem brB {W : World} {b nl c d : Nat} {A : Option Addr} {l : List Int} {H : BH}  {w : World} (u2 u3 u4 u6 u7 u8 u10 u11 u12 u13 u14 u15 u16 u17 u18 u19 u20 u21 u22 u23 u24 u25 u26 u27 u28 u29 u30 u31 u32 u33 u34 u35 u36 u37 u38 u39 u40 u41 u42 u43 u44 u45 u46 u47 u48 u49 u50 u51 u52 u53 u54 u55 u56 u57 u58 u59 u60 u61 u62 u63 u64 u65 u66 u67 u68 u69 u70 u71 u72 u73 u74 u75 u76 u77 u78 u79 u80 u81 u82 u83 u84 u85 u86 u87 u88 u89 u90 u91 u92 u93 u94 u95 u96 u97 u98 u99 u100 u101 u102 u103 u104 u105 u106 u107 u108 u109 u110 u111 u112 u113 u114 u115 u116 u117 u118 u119 u120 u121 u122 u123 u124 u125 u126 u127 u128 u129 : Value) (Q : Exit → Act → World → Prop) (hd : d < 4) (hnl : nl = l.length) (hll : nl ≤ 9223372036854775807) (hrl : RdZ W W.heap.size A l) (hI : (0 ≤ 208 ∧ BP W w b H (RN l d)))
    (hX : ∀ (v4 v10 v11 v12 v13 v85 v86 v87 v88 v89 v90 v91 v92 v93 v94 v95 v96 v97 v98 v99 v100 v101 v102 v103 v104 v105 v106 v107 v108 v109 v110 v111 v112 v113 v114 v115 v116 v117 v118 v119 v120 v121 : Value) (i : Nat) (V : World), (i ≤ 208 ∧ BP W V b H (RN l d)) → (i = 208) → Q (.exit 2) ⟨List.toArray ((.int .i64 (d : Int)) :: (.slice A nl c) :: u2 :: u3 :: v4 :: (.pointer (some ⟨b, 0, none⟩)) :: u6 :: u7 :: u8 :: (.int .i64 ((i : Nat) : Int)) :: v10 :: v11 :: v12 :: v13 :: u14 :: u15 :: u16 :: u17 :: u18 :: u19 :: u20 :: u21 :: u22 :: u23 :: u24 :: u25 :: u26 :: u27 :: u28 :: u29 :: u30 :: u31 :: u32 :: u33 :: u34 :: u35 :: u36 :: u37 :: u38 :: u39 :: u40 :: u41 :: u42 :: u43 :: u44 :: u45 :: u46 :: u47 :: u48 :: u49 :: u50 :: u51 :: u52 :: u53 :: u54 :: u55 :: u56 :: u57 :: u58 :: u59 :: u60 :: u61 :: u62 :: u63 :: u64 :: u65 :: u66 :: u67 :: u68 :: u69 :: u70 :: u71 :: u72 :: u73 :: u74 :: u75 :: u76 :: u77 :: u78 :: u79 :: u80 :: u81 :: u82 :: u83 :: u84 :: v85 :: v86 :: v87 :: v88 :: v89 :: v90 :: v91 :: v92 :: v93 :: v94 :: v95 :: v96 :: v97 :: v98 :: v99 :: v100 :: v101 :: v102 :: v103 :: v104 :: v105 :: v106 :: v107 :: v108 :: v109 :: v110 :: v111 :: v112 :: v113 :: v114 :: v115 :: v116 :: v117 :: v118 :: v119 :: v120 :: v121 :: u122 :: u123 :: u124 :: u125 :: u126 :: u127 :: u128 :: u129 :: []), []⟩ V) :
    Code.wp Try.prog (.loop (sub [1, 1, 1, 1, 1, 1, 0, 1, 0, 0] codeBR)) Q ⟨List.toArray ((.int .i64 (d : Int)) :: (.slice A nl c) :: u2 :: u3 :: u4 :: (.pointer (some ⟨b, 0, none⟩)) :: u6 :: u7 :: u8 :: (.int .i64 ((0 : Nat) : Int)) :: u10 :: u11 :: u12 :: u13 :: u14 :: u15 :: u16 :: u17 :: u18 :: u19 :: u20 :: u21 :: u22 :: u23 :: u24 :: u25 :: u26 :: u27 :: u28 :: u29 :: u30 :: u31 :: u32 :: u33 :: u34 :: u35 :: u36 :: u37 :: u38 :: u39 :: u40 :: u41 :: u42 :: u43 :: u44 :: u45 :: u46 :: u47 :: u48 :: u49 :: u50 :: u51 :: u52 :: u53 :: u54 :: u55 :: u56 :: u57 :: u58 :: u59 :: u60 :: u61 :: u62 :: u63 :: u64 :: u65 :: u66 :: u67 :: u68 :: u69 :: u70 :: u71 :: u72 :: u73 :: u74 :: u75 :: u76 :: u77 :: u78 :: u79 :: u80 :: u81 :: u82 :: u83 :: u84 :: u85 :: u86 :: u87 :: u88 :: u89 :: u90 :: u91 :: u92 :: u93 :: u94 :: u95 :: u96 :: u97 :: u98 :: u99 :: u100 :: u101 :: u102 :: u103 :: u104 :: u105 :: u106 :: u107 :: u108 :: u109 :: u110 :: u111 :: u112 :: u113 :: u114 :: u115 :: u116 :: u117 :: u118 :: u119 :: u120 :: u121 :: u122 :: u123 :: u124 :: u125 :: u126 :: u127 :: u128 :: u129 :: []), []⟩ w := by
  refine wp_loop_ghost (fun k a V => ∀ C : Prop, (∀ (u4 u10 u11 u12 u13 u85 u86 u87 u88 u89 u90 u91 u92 u93 u94 u95 u96 u97 u98 u99 u100 u101 u102 u103 u104 u105 u106 u107 u108 u109 u110 u111 u112 u113 u114 u115 u116 u117 u118 u119 u120 u121 : Value) (i : Nat), k = 208 - i → (i ≤ 208 ∧ BP W V b H (RN l d)) → a = ⟨List.toArray ((.int .i64 (d : Int)) :: (.slice A nl c) :: u2 :: u3 :: u4 :: (.pointer (some ⟨b, 0, none⟩)) :: u6 :: u7 :: u8 :: (.int .i64 ((i : Nat) : Int)) :: u10 :: u11 :: u12 :: u13 :: u14 :: u15 :: u16 :: u17 :: u18 :: u19 :: u20 :: u21 :: u22 :: u23 :: u24 :: u25 :: u26 :: u27 :: u28 :: u29 :: u30 :: u31 :: u32 :: u33 :: u34 :: u35 :: u36 :: u37 :: u38 :: u39 :: u40 :: u41 :: u42 :: u43 :: u44 :: u45 :: u46 :: u47 :: u48 :: u49 :: u50 :: u51 :: u52 :: u53 :: u54 :: u55 :: u56 :: u57 :: u58 :: u59 :: u60 :: u61 :: u62 :: u63 :: u64 :: u65 :: u66 :: u67 :: u68 :: u69 :: u70 :: u71 :: u72 :: u73 :: u74 :: u75 :: u76 :: u77 :: u78 :: u79 :: u80 :: u81 :: u82 :: u83 :: u84 :: u85 :: u86 :: u87 :: u88 :: u89 :: u90 :: u91 :: u92 :: u93 :: u94 :: u95 :: u96 :: u97 :: u98 :: u99 :: u100 :: u101 :: u102 :: u103 :: u104 :: u105 :: u106 :: u107 :: u108 :: u109 :: u110 :: u111 :: u112 :: u113 :: u114 :: u115 :: u116 :: u117 :: u118 :: u119 :: u120 :: u121 :: u122 :: u123 :: u124 :: u125 :: u126 :: u127 :: u128 :: u129 :: []), []⟩ → C) → C) (208 - 0) ?_ ?_
  · intro C hC
    exact hC _ _ _ _ _ _ _ _ _ _ _ _ _ _ _ _ _ _ _ _ _ _ _ _ _ _ _ _ _ _ _ _ _ _ _ _ _ _ _ _ _ _ (0) rfl hI rfl
  · intro k a V hI'
    refine hI' _ ?_
    intro u4 u10 u11 u12 u13 u85 u86 u87 u88 u89 u90 u91 u92 u93 u94 u95 u96 u97 u98 u99 u100 u101 u102 u103 u104 u105 u106 u107 u108 u109 u110 u111 u112 u113 u114 u115 u116 u117 u118 u119 u120 u121 i hk hinv ha
    subst ha
    subst hk
    refine brBb _ _ _ _ _ _ _ _ _ _ _ _ _ _ _ _ _ _ _ _ _ _ _ _ _ _ _ _ _ _ _ _ _ _ _ _ _ _ _ _ _ _ _ _ _ _ _ _ _ _ _ _ _ _ _ _ _ _ _ _ _ _ _ _ _ _ _ _ _ _ _ _ _ _ _ _ _ _ _ _ _ _ _ _ _ _ _ _ _ _ _ _ _ _ _ _ _ _ _ _ _ _ _ _ _ _ _ _ _ _ _ _ _ _ _ _ _ _ _ _ _ _ _ _ _ _ _ _ hd hnl hll hrl hinv (fun v4 v10 v11 v12 v13 v85 v86 v87 v88 v89 v90 v91 v92 v93 v94 v95 v96 v97 v98 v99 v100 v101 v102 v103 v104 v105 v106 v107 v108 v109 v110 v111 v112 v113 v114 v115 v116 v117 v118 v119 v120 v121  V2 h2 hm => ?_) (fun v4 v10 v11 v12 v13 v85 v86 v87 v88 v89 v90 v91 v92 v93 v94 v95 v96 v97 v98 v99 v100 v101 v102 v103 v104 v105 v106 v107 v108 v109 v110 v111 v112 v113 v114 v115 v116 v117 v118 v119 v120 v121 hx => hX v4 v10 v11 v12 v13 v85 v86 v87 v88 v89 v90 v91 v92 v93 v94 v95 v96 v97 v98 v99 v100 v101 v102 v103 v104 v105 v106 v107 v108 v109 v110 v111 v112 v113 v114 v115 v116 v117 v118 v119 v120 v121 i V hinv hx)
    refine ⟨_, hm, fun C hC => ?_⟩
    exact hC v4 v10 v11 v12 v13 v85 v86 v87 v88 v89 v90 v91 v92 v93 v94 v95 v96 v97 v98 v99 v100 v101 v102 v103 v104 v105 v106 v107 v108 v109 v110 v111 v112 v113 v114 v115 v116 v117 v118 v119 v120 v121 ((i + 1)) rfl h2 rfl
end Go.Proofs.Ytpiilfgikgkneaa
