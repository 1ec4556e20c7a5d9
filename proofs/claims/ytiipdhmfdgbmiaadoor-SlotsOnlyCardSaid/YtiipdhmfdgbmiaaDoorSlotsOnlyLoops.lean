/- SlotsOnly: its loops. -/
import Derived.Test.YtiipdhmfdgbmiaaDoorSlotsOnlyMath
import Derived.Test.YtiipdhmfdgbmiaaDoorTbak
import Derived.Test.YtiipdhmfdgbmiaaDoorTbae
import Derived.Test.YtiipdhmfdgbmiaaDoorTbaa
import Derived.Test.YtiipdhmfdgbmiaaDoorTbab
set_option linter.unusedVariables false
set_option linter.unusedSimpArgs false
namespace Go.Proofs.YtiipdhmfdgbmiaaDoor
open Go.RowKit

noncomputable def codeSO : Code := Tryd.f6.body.getD .skip
attribute [local go_sem ↓] su_eql su_neq
set_option maxRecDepth 100000 in
set_option maxHeartbeats 3200000 in
theorem soIb {w0 : World} {b cl : Nat} {A : Option Addr} {l : List Int} {i : Nat} {H : BH} {N : Bch} {w : World} (u0 u1 u2 u4 u5 u6 u7 u8 u10 u12 u13 u14 u15 u16 u17 u18 u19 u20 u21 u22 u23 u24 u25 u26 u27 u28 u29 u30 u31 u32 u33 u34 u35 u36 u37 u38 u39 u40 u41 u42 u43 u44 u45 u46 u47 u48 u49 u50 u51 u52 u53 u54 u55 u56 u57 u58 u59 u60 u61 u62 u63 u64 u65 u66 u67 u68 u69 u70 u71 u72 u73 u74 u75 u76 u77 u78 u79 u80 u81 u82 u83 u84 u85 u86 u87 u88 u89 u90 u91 u92 u93 u94 u95 u96 u97 u98 u99 u100 u101 u102 u103 u104 u105 u106 u107 u108 u109 u110 u111 u112 u113 u114 u115 u116 u117 u118 u119 u120 u121 u122 u123 u124 u125 u126 u127 u128 u129 u130 u131 u132 u133 u134 u135 u136 u137 u138 u139 u140 u141 u142 u143 u144 u145 u146 u147 u148 u149 u150 u151 u152 u153 u154 u155 u156 u157 u158 u159 u160 : Value) (K : Act → World → Prop) (Q0 : Exit → Act → World → Prop) (hl : RdZ w0 w0.heap.size A l) (hI : (i ≤ 208 ∧ KX w0 w b H N [] ∧ QG N))
    (hK : ∀ (v12 v36 v37 v38 v39 v40 v41 v42 v43 v44 v45 v46 v47 v48 v49 v50 v51 v52 v53 v54 v55 v56 : Value) (H2 : BH) (N2 : Bch) (V : World), ((i + 1) ≤ 208 ∧ KX w0 V b H2 N2 [] ∧ QG N2) → 208 - (i + 1) < 208 - i → K ⟨List.toArray (u0 :: u1 :: u2 :: (.slice A l.length cl) :: u4 :: u5 :: u6 :: u7 :: u8 :: (.pointer (some ⟨b, 0, none⟩)) :: u10 :: (.int .i64 (((i + 1) : Nat) : Int)) :: v12 :: u13 :: u14 :: u15 :: u16 :: u17 :: u18 :: u19 :: u20 :: u21 :: u22 :: u23 :: u24 :: u25 :: u26 :: u27 :: u28 :: u29 :: u30 :: u31 :: u32 :: u33 :: u34 :: u35 :: v36 :: v37 :: v38 :: v39 :: v40 :: v41 :: v42 :: v43 :: v44 :: v45 :: v46 :: v47 :: v48 :: v49 :: v50 :: v51 :: v52 :: v53 :: v54 :: v55 :: v56 :: u57 :: u58 :: u59 :: u60 :: u61 :: u62 :: u63 :: u64 :: u65 :: u66 :: u67 :: u68 :: u69 :: u70 :: u71 :: u72 :: u73 :: u74 :: u75 :: u76 :: u77 :: u78 :: u79 :: u80 :: u81 :: u82 :: u83 :: u84 :: u85 :: u86 :: u87 :: u88 :: u89 :: u90 :: u91 :: u92 :: u93 :: u94 :: u95 :: u96 :: u97 :: u98 :: u99 :: u100 :: u101 :: u102 :: u103 :: u104 :: u105 :: u106 :: u107 :: u108 :: u109 :: u110 :: u111 :: u112 :: u113 :: u114 :: u115 :: u116 :: u117 :: u118 :: u119 :: u120 :: u121 :: u122 :: u123 :: u124 :: u125 :: u126 :: u127 :: u128 :: u129 :: u130 :: u131 :: u132 :: u133 :: u134 :: u135 :: u136 :: u137 :: u138 :: u139 :: u140 :: u141 :: u142 :: u143 :: u144 :: u145 :: u146 :: u147 :: u148 :: u149 :: u150 :: u151 :: u152 :: u153 :: u154 :: u155 :: u156 :: u157 :: u158 :: u159 :: u160 :: []), []⟩ V)
    (hX : ∀ (v12 v36 v37 v38 v39 v40 v41 v42 v43 v44 v45 v46 v47 v48 v49 v50 v51 v52 v53 v54 v55 v56 : Value), (i = 208) → Q0 (.exit 0) ⟨List.toArray (u0 :: u1 :: u2 :: (.slice A l.length cl) :: u4 :: u5 :: u6 :: u7 :: u8 :: (.pointer (some ⟨b, 0, none⟩)) :: u10 :: (.int .i64 ((i : Nat) : Int)) :: v12 :: u13 :: u14 :: u15 :: u16 :: u17 :: u18 :: u19 :: u20 :: u21 :: u22 :: u23 :: u24 :: u25 :: u26 :: u27 :: u28 :: u29 :: u30 :: u31 :: u32 :: u33 :: u34 :: u35 :: v36 :: v37 :: v38 :: v39 :: v40 :: v41 :: v42 :: v43 :: v44 :: v45 :: v46 :: v47 :: v48 :: v49 :: v50 :: v51 :: v52 :: v53 :: v54 :: v55 :: v56 :: u57 :: u58 :: u59 :: u60 :: u61 :: u62 :: u63 :: u64 :: u65 :: u66 :: u67 :: u68 :: u69 :: u70 :: u71 :: u72 :: u73 :: u74 :: u75 :: u76 :: u77 :: u78 :: u79 :: u80 :: u81 :: u82 :: u83 :: u84 :: u85 :: u86 :: u87 :: u88 :: u89 :: u90 :: u91 :: u92 :: u93 :: u94 :: u95 :: u96 :: u97 :: u98 :: u99 :: u100 :: u101 :: u102 :: u103 :: u104 :: u105 :: u106 :: u107 :: u108 :: u109 :: u110 :: u111 :: u112 :: u113 :: u114 :: u115 :: u116 :: u117 :: u118 :: u119 :: u120 :: u121 :: u122 :: u123 :: u124 :: u125 :: u126 :: u127 :: u128 :: u129 :: u130 :: u131 :: u132 :: u133 :: u134 :: u135 :: u136 :: u137 :: u138 :: u139 :: u140 :: u141 :: u142 :: u143 :: u144 :: u145 :: u146 :: u147 :: u148 :: u149 :: u150 :: u151 :: u152 :: u153 :: u154 :: u155 :: u156 :: u157 :: u158 :: u159 :: u160 :: []), []⟩ w) :
    Code.wp Tryd.prog (sub [1, 1, 1, 0, 1, 0, 0] codeSO) (Exit.then K Q0) ⟨List.toArray (u0 :: u1 :: u2 :: (.slice A l.length cl) :: u4 :: u5 :: u6 :: u7 :: u8 :: (.pointer (some ⟨b, 0, none⟩)) :: u10 :: (.int .i64 ((i : Nat) : Int)) :: u12 :: u13 :: u14 :: u15 :: u16 :: u17 :: u18 :: u19 :: u20 :: u21 :: u22 :: u23 :: u24 :: u25 :: u26 :: u27 :: u28 :: u29 :: u30 :: u31 :: u32 :: u33 :: u34 :: u35 :: u36 :: u37 :: u38 :: u39 :: u40 :: u41 :: u42 :: u43 :: u44 :: u45 :: u46 :: u47 :: u48 :: u49 :: u50 :: u51 :: u52 :: u53 :: u54 :: u55 :: u56 :: u57 :: u58 :: u59 :: u60 :: u61 :: u62 :: u63 :: u64 :: u65 :: u66 :: u67 :: u68 :: u69 :: u70 :: u71 :: u72 :: u73 :: u74 :: u75 :: u76 :: u77 :: u78 :: u79 :: u80 :: u81 :: u82 :: u83 :: u84 :: u85 :: u86 :: u87 :: u88 :: u89 :: u90 :: u91 :: u92 :: u93 :: u94 :: u95 :: u96 :: u97 :: u98 :: u99 :: u100 :: u101 :: u102 :: u103 :: u104 :: u105 :: u106 :: u107 :: u108 :: u109 :: u110 :: u111 :: u112 :: u113 :: u114 :: u115 :: u116 :: u117 :: u118 :: u119 :: u120 :: u121 :: u122 :: u123 :: u124 :: u125 :: u126 :: u127 :: u128 :: u129 :: u130 :: u131 :: u132 :: u133 :: u134 :: u135 :: u136 :: u137 :: u138 :: u139 :: u140 :: u141 :: u142 :: u143 :: u144 :: u145 :: u146 :: u147 :: u148 :: u149 :: u150 :: u151 :: u152 :: u153 :: u154 :: u155 :: u156 :: u157 :: u158 :: u159 :: u160 :: []), []⟩ w := by
  have HK := Lib.hid hK
  have HX := Lib.hid hX
  clear hK hX
  conv => arg 2; whnf
  obtain ⟨hi, hK, hQ⟩ := hI
  by_cases hlt : i < 208
  · have HK1 := Lib.hid hK
    have HQ := Lib.hid hQ
    have HP : Hid (∀ j, j < N.n → (N.D j).ps.length ≤ 1999990) := fun j hj => by rw [hQ.ps j hj]; exact Nat.zero_le _
    obtain ⟨r, hr⟩ : ∃ r, r = i % 4 := ⟨_, rfl⟩
    obtain ⟨q, hq⟩ : ∃ q, q = i / 4 := ⟨_, rfl⟩
    have hr4 : r < 4 := by omega
    have hq52 : q < 52 := by omega
    have m1 : (i : Int).tmod 4 = (r : Int) := by rw [Int.tmod_eq_emod_of_nonneg (by omega)]; omega
    have m2 : (i : Int) % 4 = (r : Int) := by omega
    have m3 : (i : Int).tdiv 4 = (q : Int) := by rw [Int.tdiv_eq_ediv_of_nonneg (by omega)]; omega
    have m4 : (i : Int) / 4 = (q : Int) := by omega
    have i0 : (0 : Int) ≤ (i : Int) := by omega
    have i1 : (i : Int) < 208 := by omega
    have hlen := hl.1
    clear hQ HX hr hq
    by_cases hlt2 : i < l.length
    · obtain ⟨lb, off, rfl, hlb, hc⟩ := hl.2.2 (by omega)
      have hcz := (hK.bp.bel.cell (p := ⟨lb, off + i, none⟩) hlb).trans (hc i hlt2)
      have hz := hl.bd i
      have i2 : (i : Int) < ((l.length : Nat) : Int) := by omega
      generalize l.getD i 0 = z at hcz hz
      clear hK hc hl
      go_wp2_with fail
      refine (sector_any z _ (by omega)).mono ?_
      rintro e w1 ⟨g1, rfl, ho1, hb1⟩
      have K1 := Lib.hid (HK1.out.below hb1)
      have R1 := Lib.hid ho1.rdS.1
      clear ho1 hb1
      go_wp2_with fail
      refine (kx_damage K1.out (r : Int) (q : Int) (sectorB z) (some ⟨g1, 0, none⟩) 32 32 (sectorB_len _).symm ⟨by omega, by omega⟩ ⟨by omega, by omega⟩ R1.out HP.out).mono ?_
      rintro e w2 ⟨rfl, H2, k2⟩
      go_wp2_with fail
      exact HK.out _ _ _ _ _ _ _ _ _ _ _ _ _ _ _ _ _ _ _ _ _ _ H2 _ _ ⟨by omega, k2, qg_damage HQ.out hr4 hq52 (sectorB_len _) (decO_sector _)⟩ (by omega)
    · have i2 : ¬ (i : Int) < ((l.length : Nat) : Int) := by omega
      clear hK hl
      go_wp2_with fail
      refine (sector_any (i : Int) _ (by omega)).mono ?_
      rintro e w1 ⟨g1, rfl, ho1, hb1⟩
      have K1 := Lib.hid (HK1.out.below hb1)
      have R1 := Lib.hid ho1.rdS.1
      clear ho1 hb1
      go_wp2_with fail
      refine (kx_damage K1.out (r : Int) (q : Int) (sectorB (i : Int)) (some ⟨g1, 0, none⟩) 32 32 (sectorB_len _).symm ⟨by omega, by omega⟩ ⟨by omega, by omega⟩ R1.out HP.out).mono ?_
      rintro e w2 ⟨rfl, H2, k2⟩
      go_wp2_with fail
      exact HK.out _ _ _ _ _ _ _ _ _ _ _ _ _ _ _ _ _ _ _ _ _ _ H2 _ _ ⟨by omega, k2, qg_damage HQ.out hr4 hq52 (sectorB_len _) (decO_sector _)⟩ (by omega)
  · have i1 : ¬ (i : Int) < 208 := by omega
    have hde : i = 208 := by omega
    have Hde := Lib.hid hde
    clear HK hde
    go_wp2_with fail
    exact HX.out _ _ _ _ _ _ _ _ _ _ _ _ _ _ _ _ _ _ _ _ _ _ Hde.out
set_option maxRecDepth 100000 in
set_option maxHeartbeats 3200000 in
theorem soI {w0 : World} {b cl : Nat} {A : Option Addr} {l : List Int} {H0 : BH} {N0 : Bch} {w : World} (u0 u1 u2 u4 u5 u6 u7 u8 u10 u12 u13 u14 u15 u16 u17 u18 u19 u20 u21 u22 u23 u24 u25 u26 u27 u28 u29 u30 u31 u32 u33 u34 u35 u36 u37 u38 u39 u40 u41 u42 u43 u44 u45 u46 u47 u48 u49 u50 u51 u52 u53 u54 u55 u56 u57 u58 u59 u60 u61 u62 u63 u64 u65 u66 u67 u68 u69 u70 u71 u72 u73 u74 u75 u76 u77 u78 u79 u80 u81 u82 u83 u84 u85 u86 u87 u88 u89 u90 u91 u92 u93 u94 u95 u96 u97 u98 u99 u100 u101 u102 u103 u104 u105 u106 u107 u108 u109 u110 u111 u112 u113 u114 u115 u116 u117 u118 u119 u120 u121 u122 u123 u124 u125 u126 u127 u128 u129 u130 u131 u132 u133 u134 u135 u136 u137 u138 u139 u140 u141 u142 u143 u144 u145 u146 u147 u148 u149 u150 u151 u152 u153 u154 u155 u156 u157 u158 u159 u160 : Value) (Q : Exit → Act → World → Prop) (hl : RdZ w0 w0.heap.size A l) (hI : (0 ≤ 208 ∧ KX w0 w b H0 N0 [] ∧ QG N0))
    (hX : ∀ (v12 v36 v37 v38 v39 v40 v41 v42 v43 v44 v45 v46 v47 v48 v49 v50 v51 v52 v53 v54 v55 v56 : Value) (i : Nat) (H : BH) (N : Bch) (V : World), (i ≤ 208 ∧ KX w0 V b H N [] ∧ QG N) → (i = 208) → Q (.exit 0) ⟨List.toArray (u0 :: u1 :: u2 :: (.slice A l.length cl) :: u4 :: u5 :: u6 :: u7 :: u8 :: (.pointer (some ⟨b, 0, none⟩)) :: u10 :: (.int .i64 ((i : Nat) : Int)) :: v12 :: u13 :: u14 :: u15 :: u16 :: u17 :: u18 :: u19 :: u20 :: u21 :: u22 :: u23 :: u24 :: u25 :: u26 :: u27 :: u28 :: u29 :: u30 :: u31 :: u32 :: u33 :: u34 :: u35 :: v36 :: v37 :: v38 :: v39 :: v40 :: v41 :: v42 :: v43 :: v44 :: v45 :: v46 :: v47 :: v48 :: v49 :: v50 :: v51 :: v52 :: v53 :: v54 :: v55 :: v56 :: u57 :: u58 :: u59 :: u60 :: u61 :: u62 :: u63 :: u64 :: u65 :: u66 :: u67 :: u68 :: u69 :: u70 :: u71 :: u72 :: u73 :: u74 :: u75 :: u76 :: u77 :: u78 :: u79 :: u80 :: u81 :: u82 :: u83 :: u84 :: u85 :: u86 :: u87 :: u88 :: u89 :: u90 :: u91 :: u92 :: u93 :: u94 :: u95 :: u96 :: u97 :: u98 :: u99 :: u100 :: u101 :: u102 :: u103 :: u104 :: u105 :: u106 :: u107 :: u108 :: u109 :: u110 :: u111 :: u112 :: u113 :: u114 :: u115 :: u116 :: u117 :: u118 :: u119 :: u120 :: u121 :: u122 :: u123 :: u124 :: u125 :: u126 :: u127 :: u128 :: u129 :: u130 :: u131 :: u132 :: u133 :: u134 :: u135 :: u136 :: u137 :: u138 :: u139 :: u140 :: u141 :: u142 :: u143 :: u144 :: u145 :: u146 :: u147 :: u148 :: u149 :: u150 :: u151 :: u152 :: u153 :: u154 :: u155 :: u156 :: u157 :: u158 :: u159 :: u160 :: []), []⟩ V) :
    Code.wp Tryd.prog (.loop (sub [1, 1, 1, 0, 1, 0, 0] codeSO)) Q ⟨List.toArray (u0 :: u1 :: u2 :: (.slice A l.length cl) :: u4 :: u5 :: u6 :: u7 :: u8 :: (.pointer (some ⟨b, 0, none⟩)) :: u10 :: (.int .i64 ((0 : Nat) : Int)) :: u12 :: u13 :: u14 :: u15 :: u16 :: u17 :: u18 :: u19 :: u20 :: u21 :: u22 :: u23 :: u24 :: u25 :: u26 :: u27 :: u28 :: u29 :: u30 :: u31 :: u32 :: u33 :: u34 :: u35 :: u36 :: u37 :: u38 :: u39 :: u40 :: u41 :: u42 :: u43 :: u44 :: u45 :: u46 :: u47 :: u48 :: u49 :: u50 :: u51 :: u52 :: u53 :: u54 :: u55 :: u56 :: u57 :: u58 :: u59 :: u60 :: u61 :: u62 :: u63 :: u64 :: u65 :: u66 :: u67 :: u68 :: u69 :: u70 :: u71 :: u72 :: u73 :: u74 :: u75 :: u76 :: u77 :: u78 :: u79 :: u80 :: u81 :: u82 :: u83 :: u84 :: u85 :: u86 :: u87 :: u88 :: u89 :: u90 :: u91 :: u92 :: u93 :: u94 :: u95 :: u96 :: u97 :: u98 :: u99 :: u100 :: u101 :: u102 :: u103 :: u104 :: u105 :: u106 :: u107 :: u108 :: u109 :: u110 :: u111 :: u112 :: u113 :: u114 :: u115 :: u116 :: u117 :: u118 :: u119 :: u120 :: u121 :: u122 :: u123 :: u124 :: u125 :: u126 :: u127 :: u128 :: u129 :: u130 :: u131 :: u132 :: u133 :: u134 :: u135 :: u136 :: u137 :: u138 :: u139 :: u140 :: u141 :: u142 :: u143 :: u144 :: u145 :: u146 :: u147 :: u148 :: u149 :: u150 :: u151 :: u152 :: u153 :: u154 :: u155 :: u156 :: u157 :: u158 :: u159 :: u160 :: []), []⟩ w := by
  refine wp_loop_ghost (fun gk a V => ∀ C : Prop, (∀ (u12 u36 u37 u38 u39 u40 u41 u42 u43 u44 u45 u46 u47 u48 u49 u50 u51 u52 u53 u54 u55 u56 : Value) (i : Nat) (H : BH) (N : Bch), gk = 208 - i → (i ≤ 208 ∧ KX w0 V b H N [] ∧ QG N) → a = ⟨List.toArray (u0 :: u1 :: u2 :: (.slice A l.length cl) :: u4 :: u5 :: u6 :: u7 :: u8 :: (.pointer (some ⟨b, 0, none⟩)) :: u10 :: (.int .i64 ((i : Nat) : Int)) :: u12 :: u13 :: u14 :: u15 :: u16 :: u17 :: u18 :: u19 :: u20 :: u21 :: u22 :: u23 :: u24 :: u25 :: u26 :: u27 :: u28 :: u29 :: u30 :: u31 :: u32 :: u33 :: u34 :: u35 :: u36 :: u37 :: u38 :: u39 :: u40 :: u41 :: u42 :: u43 :: u44 :: u45 :: u46 :: u47 :: u48 :: u49 :: u50 :: u51 :: u52 :: u53 :: u54 :: u55 :: u56 :: u57 :: u58 :: u59 :: u60 :: u61 :: u62 :: u63 :: u64 :: u65 :: u66 :: u67 :: u68 :: u69 :: u70 :: u71 :: u72 :: u73 :: u74 :: u75 :: u76 :: u77 :: u78 :: u79 :: u80 :: u81 :: u82 :: u83 :: u84 :: u85 :: u86 :: u87 :: u88 :: u89 :: u90 :: u91 :: u92 :: u93 :: u94 :: u95 :: u96 :: u97 :: u98 :: u99 :: u100 :: u101 :: u102 :: u103 :: u104 :: u105 :: u106 :: u107 :: u108 :: u109 :: u110 :: u111 :: u112 :: u113 :: u114 :: u115 :: u116 :: u117 :: u118 :: u119 :: u120 :: u121 :: u122 :: u123 :: u124 :: u125 :: u126 :: u127 :: u128 :: u129 :: u130 :: u131 :: u132 :: u133 :: u134 :: u135 :: u136 :: u137 :: u138 :: u139 :: u140 :: u141 :: u142 :: u143 :: u144 :: u145 :: u146 :: u147 :: u148 :: u149 :: u150 :: u151 :: u152 :: u153 :: u154 :: u155 :: u156 :: u157 :: u158 :: u159 :: u160 :: []), []⟩ → C) → C) (208 - 0) ?_ ?_
  · intro C hC
    exact hC _ _ _ _ _ _ _ _ _ _ _ _ _ _ _ _ _ _ _ _ _ _ (0) (H0) (N0) rfl hI rfl
  · intro gk a V hI'
    refine hI' _ ?_
    intro u12 u36 u37 u38 u39 u40 u41 u42 u43 u44 u45 u46 u47 u48 u49 u50 u51 u52 u53 u54 u55 u56 i H N hk hinv ha
    subst ha
    subst hk
    refine soIb _ _ _ _ _ _ _ _ _ _ _ _ _ _ _ _ _ _ _ _ _ _ _ _ _ _ _ _ _ _ _ _ _ _ _ _ _ _ _ _ _ _ _ _ _ _ _ _ _ _ _ _ _ _ _ _ _ _ _ _ _ _ _ _ _ _ _ _ _ _ _ _ _ _ _ _ _ _ _ _ _ _ _ _ _ _ _ _ _ _ _ _ _ _ _ _ _ _ _ _ _ _ _ _ _ _ _ _ _ _ _ _ _ _ _ _ _ _ _ _ _ _ _ _ _ _ _ _ _ _ _ _ _ _ _ _ _ _ _ _ _ _ _ _ _ _ _ _ _ _ _ _ _ _ _ _ _ _ _ _ hl hinv (fun v12 v36 v37 v38 v39 v40 v41 v42 v43 v44 v45 v46 v47 v48 v49 v50 v51 v52 v53 v54 v55 v56 H2 N2 V2 h2 hm => ?_) (fun v12 v36 v37 v38 v39 v40 v41 v42 v43 v44 v45 v46 v47 v48 v49 v50 v51 v52 v53 v54 v55 v56 hx => hX v12 v36 v37 v38 v39 v40 v41 v42 v43 v44 v45 v46 v47 v48 v49 v50 v51 v52 v53 v54 v55 v56 i H N V hinv hx)
    refine ⟨_, hm, fun C hC => ?_⟩
    exact hC v12 v36 v37 v38 v39 v40 v41 v42 v43 v44 v45 v46 v47 v48 v49 v50 v51 v52 v53 v54 v55 v56 ((i + 1)) (H2) (N2) rfl h2 rfl
set_option maxRecDepth 100000 in
set_option maxHeartbeats 3200000 in
theorem soAb {w0 : World} {b b2 gl d : Nat} {H H2 : BH} {N M : Bch} {K0 : List (Nat × Obj)} {lv : List Bool} {s : Su} {gen : Int} {qq : Nat} {w : World} (u1 u2 u3 u4 u5 u6 u7 u8 u10 u11 u12 u17 u18 u19 u20 u21 u22 u23 u24 u25 u26 u27 u28 u29 u30 u31 u32 u33 u34 u35 u36 u37 u38 u39 u40 u41 u42 u43 u44 u45 u46 u47 u48 u49 u50 u51 u52 u53 u54 u55 u56 u57 u58 u59 u60 u61 u62 u63 u64 u65 u66 u67 u68 u69 u70 u71 u72 u73 u74 u75 u76 u77 u78 u79 u80 u81 u82 u83 u84 u85 u86 u87 u88 u89 u90 u91 u92 u93 u94 u95 u96 u97 u98 u99 u100 u101 u102 u103 u104 u105 u106 u107 u108 u109 u110 u111 u112 u113 u114 u115 u116 u117 u118 u119 u120 u121 u122 u123 u124 u125 u126 u127 u128 u129 u130 u131 u132 u133 u134 u135 u136 u137 u138 u139 u140 u141 u142 u143 u144 u145 u146 u147 u148 u149 u150 u151 u152 u153 u154 u155 u156 u157 u158 u159 u160 : Value) (K : Act → World → Prop) (Q0 : Exit → Act → World → Prop) (hQ : QG N) (st : StG N M lv s) (hsg : s.g = gen) (hge : 1 ≤ gen ∧ gen ≤ 5000) (hd4 : d < 4) (hrow : (gl, Obj.cells (lv.map Value.bool).toArray 4 (0, 0)) ∈ K0) (hlv : lv.length = 4) (hW : ∀ V : World, (∀ p ∈ K0, V.heap[p.1]? = some p.2) → BAt V w0.heap.size b2 H2 N) (hI : (qq ≤ 52 ∧ KX w0 w b H M K0))
    (hK : ∀ (v8 v17 v18 v19 v20 v21 v77 v78 v79 v80 v81 v82 v83 v84 v85 v86 v87 v88 v89 v90 v91 v92 v93 v94 v95 v96 v97 v98 v99 v100 v101 v102 v103 v104 v105 v106 v107 v108 v109 v110 v111 v112 v113 v114 v115 v116 v117 v118 v119 v120 v121 v122 v123 v124 : Value)  (V : World), ((qq + 1) ≤ 52 ∧ KX w0 V b H M K0) → 52 - (qq + 1) < 52 - qq → K ⟨List.toArray ((.int .i64 gen) :: u1 :: u2 :: u3 :: u4 :: u5 :: u6 :: u7 :: v8 :: (.pointer (some ⟨b, 0, none⟩)) :: u10 :: u11 :: u12 :: (.pointer (some ⟨b2, 0, none⟩)) :: (.slice (some ⟨gl, 0, none⟩) 4 4) :: (.int .i64 ((d : Nat) : Int)) :: (.int .i64 (((qq + 1) : Nat) : Int)) :: v17 :: v18 :: v19 :: v20 :: v21 :: u22 :: u23 :: u24 :: u25 :: u26 :: u27 :: u28 :: u29 :: u30 :: u31 :: u32 :: u33 :: u34 :: u35 :: u36 :: u37 :: u38 :: u39 :: u40 :: u41 :: u42 :: u43 :: u44 :: u45 :: u46 :: u47 :: u48 :: u49 :: u50 :: u51 :: u52 :: u53 :: u54 :: u55 :: u56 :: u57 :: u58 :: u59 :: u60 :: u61 :: u62 :: u63 :: u64 :: u65 :: u66 :: u67 :: u68 :: u69 :: u70 :: u71 :: u72 :: u73 :: u74 :: u75 :: u76 :: v77 :: v78 :: v79 :: v80 :: v81 :: v82 :: v83 :: v84 :: v85 :: v86 :: v87 :: v88 :: v89 :: v90 :: v91 :: v92 :: v93 :: v94 :: v95 :: v96 :: v97 :: v98 :: v99 :: v100 :: v101 :: v102 :: v103 :: v104 :: v105 :: v106 :: v107 :: v108 :: v109 :: v110 :: v111 :: v112 :: v113 :: v114 :: v115 :: v116 :: v117 :: v118 :: v119 :: v120 :: v121 :: v122 :: v123 :: v124 :: u125 :: u126 :: u127 :: u128 :: u129 :: u130 :: u131 :: u132 :: u133 :: u134 :: u135 :: u136 :: u137 :: u138 :: u139 :: u140 :: u141 :: u142 :: u143 :: u144 :: u145 :: u146 :: u147 :: u148 :: u149 :: u150 :: u151 :: u152 :: u153 :: u154 :: u155 :: u156 :: u157 :: u158 :: u159 :: u160 :: []), []⟩ V)
    (hX : ∀ (v8 v17 v18 v19 v20 v21 v77 v78 v79 v80 v81 v82 v83 v84 v85 v86 v87 v88 v89 v90 v91 v92 v93 v94 v95 v96 v97 v98 v99 v100 v101 v102 v103 v104 v105 v106 v107 v108 v109 v110 v111 v112 v113 v114 v115 v116 v117 v118 v119 v120 v121 v122 v123 v124 : Value), (qq = 52) → Q0 (.exit 4) ⟨List.toArray ((.int .i64 gen) :: u1 :: u2 :: u3 :: u4 :: u5 :: u6 :: u7 :: v8 :: (.pointer (some ⟨b, 0, none⟩)) :: u10 :: u11 :: u12 :: (.pointer (some ⟨b2, 0, none⟩)) :: (.slice (some ⟨gl, 0, none⟩) 4 4) :: (.int .i64 ((d : Nat) : Int)) :: (.int .i64 ((qq : Nat) : Int)) :: v17 :: v18 :: v19 :: v20 :: v21 :: u22 :: u23 :: u24 :: u25 :: u26 :: u27 :: u28 :: u29 :: u30 :: u31 :: u32 :: u33 :: u34 :: u35 :: u36 :: u37 :: u38 :: u39 :: u40 :: u41 :: u42 :: u43 :: u44 :: u45 :: u46 :: u47 :: u48 :: u49 :: u50 :: u51 :: u52 :: u53 :: u54 :: u55 :: u56 :: u57 :: u58 :: u59 :: u60 :: u61 :: u62 :: u63 :: u64 :: u65 :: u66 :: u67 :: u68 :: u69 :: u70 :: u71 :: u72 :: u73 :: u74 :: u75 :: u76 :: v77 :: v78 :: v79 :: v80 :: v81 :: v82 :: v83 :: v84 :: v85 :: v86 :: v87 :: v88 :: v89 :: v90 :: v91 :: v92 :: v93 :: v94 :: v95 :: v96 :: v97 :: v98 :: v99 :: v100 :: v101 :: v102 :: v103 :: v104 :: v105 :: v106 :: v107 :: v108 :: v109 :: v110 :: v111 :: v112 :: v113 :: v114 :: v115 :: v116 :: v117 :: v118 :: v119 :: v120 :: v121 :: v122 :: v123 :: v124 :: u125 :: u126 :: u127 :: u128 :: u129 :: u130 :: u131 :: u132 :: u133 :: u134 :: u135 :: u136 :: u137 :: u138 :: u139 :: u140 :: u141 :: u142 :: u143 :: u144 :: u145 :: u146 :: u147 :: u148 :: u149 :: u150 :: u151 :: u152 :: u153 :: u154 :: u155 :: u156 :: u157 :: u158 :: u159 :: u160 :: []), []⟩ w) :
    Code.wp Tryd.prog (sub [1, 1, 1, 1, 1, 1, 1, 1, 1, 0, 1, 0, 0, 1, 0, 0, 1, 0, 0] codeSO) (Exit.then K Q0) ⟨List.toArray ((.int .i64 gen) :: u1 :: u2 :: u3 :: u4 :: u5 :: u6 :: u7 :: u8 :: (.pointer (some ⟨b, 0, none⟩)) :: u10 :: u11 :: u12 :: (.pointer (some ⟨b2, 0, none⟩)) :: (.slice (some ⟨gl, 0, none⟩) 4 4) :: (.int .i64 ((d : Nat) : Int)) :: (.int .i64 ((qq : Nat) : Int)) :: u17 :: u18 :: u19 :: u20 :: u21 :: u22 :: u23 :: u24 :: u25 :: u26 :: u27 :: u28 :: u29 :: u30 :: u31 :: u32 :: u33 :: u34 :: u35 :: u36 :: u37 :: u38 :: u39 :: u40 :: u41 :: u42 :: u43 :: u44 :: u45 :: u46 :: u47 :: u48 :: u49 :: u50 :: u51 :: u52 :: u53 :: u54 :: u55 :: u56 :: u57 :: u58 :: u59 :: u60 :: u61 :: u62 :: u63 :: u64 :: u65 :: u66 :: u67 :: u68 :: u69 :: u70 :: u71 :: u72 :: u73 :: u74 :: u75 :: u76 :: u77 :: u78 :: u79 :: u80 :: u81 :: u82 :: u83 :: u84 :: u85 :: u86 :: u87 :: u88 :: u89 :: u90 :: u91 :: u92 :: u93 :: u94 :: u95 :: u96 :: u97 :: u98 :: u99 :: u100 :: u101 :: u102 :: u103 :: u104 :: u105 :: u106 :: u107 :: u108 :: u109 :: u110 :: u111 :: u112 :: u113 :: u114 :: u115 :: u116 :: u117 :: u118 :: u119 :: u120 :: u121 :: u122 :: u123 :: u124 :: u125 :: u126 :: u127 :: u128 :: u129 :: u130 :: u131 :: u132 :: u133 :: u134 :: u135 :: u136 :: u137 :: u138 :: u139 :: u140 :: u141 :: u142 :: u143 :: u144 :: u145 :: u146 :: u147 :: u148 :: u149 :: u150 :: u151 :: u152 :: u153 :: u154 :: u155 :: u156 :: u157 :: u158 :: u159 :: u160 :: []), []⟩ w := by
  have HK := Lib.hid hK
  have HX := Lib.hid hX
  clear hK hX
  conv => arg 2; whnf
  obtain ⟨ha, hK⟩ := hI
  by_cases hlt : qq < 52
  · have Hm := Lib.hid (Bch.read_ok (N := M) (d := d) (k := qq) (by rw [st.n, hQ.n]; exact hd4) hlt (only_f hQ st hd4) st.dn)
    have Hn := Lib.hid (Bch.read_ok (N := N) (d := d) (k := qq) (by rw [hQ.n]; exact hd4) hlt (hQ.f d hd4) hQ.dn)
    have C1 := bch_read_any _ b H M w hK.bp.at' (d : Int) (qq : Int) ⟨by omega, by omega⟩ ⟨by omega, by omega⟩
    rw [Hm.out.1, Hm.out.2] at C1
    have Hsame := Lib.hid (fun hne => only_same (d := d) (k := qq) hQ st hd4 hne)
    have hsl : slotI s.g = slotI gen := by rw [hsg]
    have Hmine : Hid (slotI s.g = if gen % 2 = 0 then 0 else 1) := hsl
    have Hx32 := Lib.hid (secAt_len (L := (M.D d).now) (k := qq) (by rw [(hK.bp.at'.dsk d (by rw [st.n, hQ.n]; exact hd4)).ok.now]; omega))
    have Hy32 := Lib.hid (secAt_len (L := (N.D d).now) (k := qq) (by rw [(hQ.ok d hd4).now]; omega))
    have HK1 := Lib.hid hK
    have HW := Lib.hid hW
    have HrowK := Lib.hid hrow
    have a0 : (0 : Int) ≤ (qq : Int) := by omega
    have a1 : (qq : Int) < 52 := by omega
    have d0 : (0 : Int) ≤ (d : Int) := by omega
    have d1 : (d : Int) < 4 := by omega
    have HC2 := Lib.hid (fun V (hB : BAt V w0.heap.size b2 H2 N) => bch_read_any _ b2 H2 N V hB (d : Int) (qq : Int) ⟨by omega, by omega⟩ ⟨by omega, by omega⟩)
    have HC2 := Lib.hid (fun V (hB : BAt V w0.heap.size b2 H2 N) => by have h := HC2.out V hB; rw [Hn.out.1, Hn.out.2] at h; exact h)
    have C1 := Lib.hid C1
    have Hlr := Lib.hid (show ∀ V : World, V.heap[gl]? = some (.cells (lv.map Value.bool).toArray 4 (0, 0)) → V.cell? ⟨gl, d, none⟩ = some (.bool (lv.getD d false)) from fun V hV => by
      rw [cell_of_row _ _ d _ _ _ hV, List.getElem?_toArray, List.getElem?_map, List.getElem?_eq_getElem (by omega)]
      simp [List.getD_eq_getElem?_getD, hlv, hd4])
    clear hK HX hQ st hsg hrow hlv hW hsl Hm Hn
    generalize secAt (M.D d).now qq = x at C1 Hsame Hx32
    generalize secAt (N.D d).now qq = y at HC2 Hsame Hy32
    unfold ptr at C1 HC2
    go_wp2_with fail
    refine C1.out.mono ?_
    rintro e w1 ⟨v1, rfl, ho1, hb1⟩
    obtain ⟨A1, c1, rfl, hc1, hr1⟩ := ho1.rd
    rw [Hx32.out] at hc1 ⊢
    have K2 := Lib.hid (HK1.out.below hb1)
    have C2 := Lib.hid (HC2.out w1 (HW.out w1 fun p hp => (K2.out.kp p hp).1))
    clear ho1 hb1 C1 HC2
    go_wp2_with fail
    refine C2.out.mono ?_
    rintro e w2 ⟨v2, rfl, ho2, hb2⟩
    obtain ⟨A2, c2, rfl, hc2, hr2⟩ := ho2.rd
    rw [Hy32.out] at hc2 ⊢
    have K4 := Lib.hid (K2.out.below hb2)
    have HR1 := Lib.hid ((hr1.below hb2 (Nat.le_refl _)).more hb2.size)
    have HR2 := Lib.hid hr2
    have hcl := Hlr.out w2 ((K4.out.kp _ HrowK.out).1)
    clear ho2 hb2 C2 hr1 hr2 HW Hlr HK1
    cases hld : lv.getD d false with
    | false =>
      rw [hld] at hcl
      have Hld := Lib.hid hld
      clear hld
      have Hxy := Lib.hid (Hsame.out (by exact fun h => by rw [Hld.out] at h; exact absurd h.1 (by decide)))
      rw [← Hxy.out] at HR2
      clear Hxy Hsame Hmine
      go_wp2_with (go_at_call 23; refine (same_eq A1 A2 32 c1 c2 _ x _ Hx32.out.symm (HR1.out.more (Nat.le_refl _)) HR2.out).mono ?_; rintro e w5 ⟨rfl, hb5⟩; have K5 := Lib.hid (K4.out.below hb5); clear hb5)
      exact HK.out _ _ _ _ _ _ _ _ _ _ _ _ _ _ _ _ _ _ _ _ _ _ _ _ _ _ _ _ _ _ _ _ _ _ _ _ _ _ _ _ _ _ _ _ _ _ _ _ _ _ _ _ _ _ _ ⟨by omega, K5.out⟩ (by omega)
    | true =>
      rw [hld] at hcl
      clear hld
      have ht : gen.tmod 2 = gen % 2 := Int.tmod_eq_emod_of_nonneg (by omega)
      by_cases h0 : qq = 0
      · have b0 : ((qq : Int) == 0) = true := by rw [beq_iff_eq]; omega
        have b1 : ((qq : Int) == 1) = false := by rw [beq_eq_false_iff_ne]; omega
        have H0 := Lib.hid h0
        clear h0
        by_cases hp : gen % 2 = 0
        · have Hp := Lib.hid hp
          rw [hp] at ht
          clear hp
          clear Hsame Hmine
          go_wp2_with fail
          exact HK.out _ _ _ _ _ _ _ _ _ _ _ _ _ _ _ _ _ _ _ _ _ _ _ _ _ _ _ _ _ _ _ _ _ _ _ _ _ _ _ _ _ _ _ _ _ _ _ _ _ _ _ _ _ _ _ ⟨by omega, K4.out⟩ (by omega)
        · have hp1 : gen % 2 = 1 := by omega
          have Hp := Lib.hid hp1
          rw [hp1] at ht
          clear hp hp1
          have Hxy := Lib.hid (Hsame.out (by intro h; have h1 := h.2; rw [Hmine.out, if_neg (by rw [Hp.out]; decide)] at h1; have := H0.out; omega))
          rw [← Hxy.out] at HR2
          clear Hxy Hsame Hmine
          go_wp2_with (go_at_call 23; refine (same_eq A1 A2 32 c1 c2 _ x _ Hx32.out.symm (HR1.out.more (Nat.le_refl _)) HR2.out).mono ?_; rintro e w5 ⟨rfl, hb5⟩; have K5 := Lib.hid (K4.out.below hb5); clear hb5)
          exact HK.out _ _ _ _ _ _ _ _ _ _ _ _ _ _ _ _ _ _ _ _ _ _ _ _ _ _ _ _ _ _ _ _ _ _ _ _ _ _ _ _ _ _ _ _ _ _ _ _ _ _ _ _ _ _ _ ⟨by omega, K5.out⟩ (by omega)
      · by_cases h1 : qq = 1
        · have b0 : ((qq : Int) == 0) = false := by rw [beq_eq_false_iff_ne]; omega
          have b1 : ((qq : Int) == 1) = true := by rw [beq_iff_eq]; omega
          have H1 := Lib.hid h1
          clear h0 h1
          by_cases hp : gen % 2 = 0
          · have Hp := Lib.hid hp
            rw [hp] at ht
            clear hp
            have Hxy := Lib.hid (Hsame.out (by intro h; have h1 := h.2; rw [Hmine.out, if_pos Hp.out] at h1; have := H1.out; omega))
            rw [← Hxy.out] at HR2
            clear Hxy Hsame Hmine
            go_wp2_with (go_at_call 23; refine (same_eq A1 A2 32 c1 c2 _ x _ Hx32.out.symm (HR1.out.more (Nat.le_refl _)) HR2.out).mono ?_; rintro e w5 ⟨rfl, hb5⟩; have K5 := Lib.hid (K4.out.below hb5); clear hb5)
            exact HK.out _ _ _ _ _ _ _ _ _ _ _ _ _ _ _ _ _ _ _ _ _ _ _ _ _ _ _ _ _ _ _ _ _ _ _ _ _ _ _ _ _ _ _ _ _ _ _ _ _ _ _ _ _ _ _ ⟨by omega, K5.out⟩ (by omega)
          · have hp1 : gen % 2 = 1 := by omega
            have Hp := Lib.hid hp1
            rw [hp1] at ht
            clear hp hp1
            clear Hsame Hmine
            go_wp2_with fail
            exact HK.out _ _ _ _ _ _ _ _ _ _ _ _ _ _ _ _ _ _ _ _ _ _ _ _ _ _ _ _ _ _ _ _ _ _ _ _ _ _ _ _ _ _ _ _ _ _ _ _ _ _ _ _ _ _ _ ⟨by omega, K4.out⟩ (by omega)
        · have b0 : ((qq : Int) == 0) = false := by rw [beq_eq_false_iff_ne]; omega
          have b1 : ((qq : Int) == 1) = false := by rw [beq_eq_false_iff_ne]; omega
          have Ha := Lib.hid (show 2 ≤ qq by omega)
          clear h0 h1 ht
          have Hxy := Lib.hid (Hsame.out (by intro h; have h1 := h.2; have h2 := slotI_lt s.g; have := Ha.out; omega))
          rw [← Hxy.out] at HR2
          clear Hxy Hsame Hmine
          go_wp2_with (go_at_call 23; refine (same_eq A1 A2 32 c1 c2 _ x _ Hx32.out.symm (HR1.out.more (Nat.le_refl _)) HR2.out).mono ?_; rintro e w5 ⟨rfl, hb5⟩; have K5 := Lib.hid (K4.out.below hb5); clear hb5)
          exact HK.out _ _ _ _ _ _ _ _ _ _ _ _ _ _ _ _ _ _ _ _ _ _ _ _ _ _ _ _ _ _ _ _ _ _ _ _ _ _ _ _ _ _ _ _ _ _ _ _ _ _ _ _ _ _ _ ⟨by omega, K5.out⟩ (by omega)
  · have i1 : ¬ (qq : Int) < 52 := by omega
    have hde : qq = 52 := by omega
    have Hde := Lib.hid hde
    clear HK hde
    go_wp2_with fail
    exact HX.out _ _ _ _ _ _ _ _ _ _ _ _ _ _ _ _ _ _ _ _ _ _ _ _ _ _ _ _ _ _ _ _ _ _ _ _ _ _ _ _ _ _ _ _ _ _ _ _ _ _ _ _ _ _ Hde.out
set_option maxRecDepth 100000 in
set_option maxHeartbeats 3200000 in
theorem soA {w0 : World} {b b2 gl d : Nat} {H H2 : BH} {N M : Bch} {K0 : List (Nat × Obj)} {lv : List Bool} {s : Su} {gen : Int}  {w : World} (u1 u2 u3 u4 u5 u6 u7 u8 u10 u11 u12 u17 u18 u19 u20 u21 u22 u23 u24 u25 u26 u27 u28 u29 u30 u31 u32 u33 u34 u35 u36 u37 u38 u39 u40 u41 u42 u43 u44 u45 u46 u47 u48 u49 u50 u51 u52 u53 u54 u55 u56 u57 u58 u59 u60 u61 u62 u63 u64 u65 u66 u67 u68 u69 u70 u71 u72 u73 u74 u75 u76 u77 u78 u79 u80 u81 u82 u83 u84 u85 u86 u87 u88 u89 u90 u91 u92 u93 u94 u95 u96 u97 u98 u99 u100 u101 u102 u103 u104 u105 u106 u107 u108 u109 u110 u111 u112 u113 u114 u115 u116 u117 u118 u119 u120 u121 u122 u123 u124 u125 u126 u127 u128 u129 u130 u131 u132 u133 u134 u135 u136 u137 u138 u139 u140 u141 u142 u143 u144 u145 u146 u147 u148 u149 u150 u151 u152 u153 u154 u155 u156 u157 u158 u159 u160 : Value) (Q : Exit → Act → World → Prop) (hQ : QG N) (st : StG N M lv s) (hsg : s.g = gen) (hge : 1 ≤ gen ∧ gen ≤ 5000) (hd4 : d < 4) (hrow : (gl, Obj.cells (lv.map Value.bool).toArray 4 (0, 0)) ∈ K0) (hlv : lv.length = 4) (hW : ∀ V : World, (∀ p ∈ K0, V.heap[p.1]? = some p.2) → BAt V w0.heap.size b2 H2 N) (hI : (0 ≤ 52 ∧ KX w0 w b H M K0))
    (hX : ∀ (v8 v17 v18 v19 v20 v21 v77 v78 v79 v80 v81 v82 v83 v84 v85 v86 v87 v88 v89 v90 v91 v92 v93 v94 v95 v96 v97 v98 v99 v100 v101 v102 v103 v104 v105 v106 v107 v108 v109 v110 v111 v112 v113 v114 v115 v116 v117 v118 v119 v120 v121 v122 v123 v124 : Value) (qq : Nat) (V : World), (qq ≤ 52 ∧ KX w0 V b H M K0) → (qq = 52) → Q (.exit 4) ⟨List.toArray ((.int .i64 gen) :: u1 :: u2 :: u3 :: u4 :: u5 :: u6 :: u7 :: v8 :: (.pointer (some ⟨b, 0, none⟩)) :: u10 :: u11 :: u12 :: (.pointer (some ⟨b2, 0, none⟩)) :: (.slice (some ⟨gl, 0, none⟩) 4 4) :: (.int .i64 ((d : Nat) : Int)) :: (.int .i64 ((qq : Nat) : Int)) :: v17 :: v18 :: v19 :: v20 :: v21 :: u22 :: u23 :: u24 :: u25 :: u26 :: u27 :: u28 :: u29 :: u30 :: u31 :: u32 :: u33 :: u34 :: u35 :: u36 :: u37 :: u38 :: u39 :: u40 :: u41 :: u42 :: u43 :: u44 :: u45 :: u46 :: u47 :: u48 :: u49 :: u50 :: u51 :: u52 :: u53 :: u54 :: u55 :: u56 :: u57 :: u58 :: u59 :: u60 :: u61 :: u62 :: u63 :: u64 :: u65 :: u66 :: u67 :: u68 :: u69 :: u70 :: u71 :: u72 :: u73 :: u74 :: u75 :: u76 :: v77 :: v78 :: v79 :: v80 :: v81 :: v82 :: v83 :: v84 :: v85 :: v86 :: v87 :: v88 :: v89 :: v90 :: v91 :: v92 :: v93 :: v94 :: v95 :: v96 :: v97 :: v98 :: v99 :: v100 :: v101 :: v102 :: v103 :: v104 :: v105 :: v106 :: v107 :: v108 :: v109 :: v110 :: v111 :: v112 :: v113 :: v114 :: v115 :: v116 :: v117 :: v118 :: v119 :: v120 :: v121 :: v122 :: v123 :: v124 :: u125 :: u126 :: u127 :: u128 :: u129 :: u130 :: u131 :: u132 :: u133 :: u134 :: u135 :: u136 :: u137 :: u138 :: u139 :: u140 :: u141 :: u142 :: u143 :: u144 :: u145 :: u146 :: u147 :: u148 :: u149 :: u150 :: u151 :: u152 :: u153 :: u154 :: u155 :: u156 :: u157 :: u158 :: u159 :: u160 :: []), []⟩ V) :
    Code.wp Tryd.prog (.loop (sub [1, 1, 1, 1, 1, 1, 1, 1, 1, 0, 1, 0, 0, 1, 0, 0, 1, 0, 0] codeSO)) Q ⟨List.toArray ((.int .i64 gen) :: u1 :: u2 :: u3 :: u4 :: u5 :: u6 :: u7 :: u8 :: (.pointer (some ⟨b, 0, none⟩)) :: u10 :: u11 :: u12 :: (.pointer (some ⟨b2, 0, none⟩)) :: (.slice (some ⟨gl, 0, none⟩) 4 4) :: (.int .i64 ((d : Nat) : Int)) :: (.int .i64 ((0 : Nat) : Int)) :: u17 :: u18 :: u19 :: u20 :: u21 :: u22 :: u23 :: u24 :: u25 :: u26 :: u27 :: u28 :: u29 :: u30 :: u31 :: u32 :: u33 :: u34 :: u35 :: u36 :: u37 :: u38 :: u39 :: u40 :: u41 :: u42 :: u43 :: u44 :: u45 :: u46 :: u47 :: u48 :: u49 :: u50 :: u51 :: u52 :: u53 :: u54 :: u55 :: u56 :: u57 :: u58 :: u59 :: u60 :: u61 :: u62 :: u63 :: u64 :: u65 :: u66 :: u67 :: u68 :: u69 :: u70 :: u71 :: u72 :: u73 :: u74 :: u75 :: u76 :: u77 :: u78 :: u79 :: u80 :: u81 :: u82 :: u83 :: u84 :: u85 :: u86 :: u87 :: u88 :: u89 :: u90 :: u91 :: u92 :: u93 :: u94 :: u95 :: u96 :: u97 :: u98 :: u99 :: u100 :: u101 :: u102 :: u103 :: u104 :: u105 :: u106 :: u107 :: u108 :: u109 :: u110 :: u111 :: u112 :: u113 :: u114 :: u115 :: u116 :: u117 :: u118 :: u119 :: u120 :: u121 :: u122 :: u123 :: u124 :: u125 :: u126 :: u127 :: u128 :: u129 :: u130 :: u131 :: u132 :: u133 :: u134 :: u135 :: u136 :: u137 :: u138 :: u139 :: u140 :: u141 :: u142 :: u143 :: u144 :: u145 :: u146 :: u147 :: u148 :: u149 :: u150 :: u151 :: u152 :: u153 :: u154 :: u155 :: u156 :: u157 :: u158 :: u159 :: u160 :: []), []⟩ w := by
  refine wp_loop_ghost (fun gk a V => ∀ C : Prop, (∀ (u8 u17 u18 u19 u20 u21 u77 u78 u79 u80 u81 u82 u83 u84 u85 u86 u87 u88 u89 u90 u91 u92 u93 u94 u95 u96 u97 u98 u99 u100 u101 u102 u103 u104 u105 u106 u107 u108 u109 u110 u111 u112 u113 u114 u115 u116 u117 u118 u119 u120 u121 u122 u123 u124 : Value) (qq : Nat), gk = 52 - qq → (qq ≤ 52 ∧ KX w0 V b H M K0) → a = ⟨List.toArray ((.int .i64 gen) :: u1 :: u2 :: u3 :: u4 :: u5 :: u6 :: u7 :: u8 :: (.pointer (some ⟨b, 0, none⟩)) :: u10 :: u11 :: u12 :: (.pointer (some ⟨b2, 0, none⟩)) :: (.slice (some ⟨gl, 0, none⟩) 4 4) :: (.int .i64 ((d : Nat) : Int)) :: (.int .i64 ((qq : Nat) : Int)) :: u17 :: u18 :: u19 :: u20 :: u21 :: u22 :: u23 :: u24 :: u25 :: u26 :: u27 :: u28 :: u29 :: u30 :: u31 :: u32 :: u33 :: u34 :: u35 :: u36 :: u37 :: u38 :: u39 :: u40 :: u41 :: u42 :: u43 :: u44 :: u45 :: u46 :: u47 :: u48 :: u49 :: u50 :: u51 :: u52 :: u53 :: u54 :: u55 :: u56 :: u57 :: u58 :: u59 :: u60 :: u61 :: u62 :: u63 :: u64 :: u65 :: u66 :: u67 :: u68 :: u69 :: u70 :: u71 :: u72 :: u73 :: u74 :: u75 :: u76 :: u77 :: u78 :: u79 :: u80 :: u81 :: u82 :: u83 :: u84 :: u85 :: u86 :: u87 :: u88 :: u89 :: u90 :: u91 :: u92 :: u93 :: u94 :: u95 :: u96 :: u97 :: u98 :: u99 :: u100 :: u101 :: u102 :: u103 :: u104 :: u105 :: u106 :: u107 :: u108 :: u109 :: u110 :: u111 :: u112 :: u113 :: u114 :: u115 :: u116 :: u117 :: u118 :: u119 :: u120 :: u121 :: u122 :: u123 :: u124 :: u125 :: u126 :: u127 :: u128 :: u129 :: u130 :: u131 :: u132 :: u133 :: u134 :: u135 :: u136 :: u137 :: u138 :: u139 :: u140 :: u141 :: u142 :: u143 :: u144 :: u145 :: u146 :: u147 :: u148 :: u149 :: u150 :: u151 :: u152 :: u153 :: u154 :: u155 :: u156 :: u157 :: u158 :: u159 :: u160 :: []), []⟩ → C) → C) (52 - 0) ?_ ?_
  · intro C hC
    exact hC _ _ _ _ _ _ _ _ _ _ _ _ _ _ _ _ _ _ _ _ _ _ _ _ _ _ _ _ _ _ _ _ _ _ _ _ _ _ _ _ _ _ _ _ _ _ _ _ _ _ _ _ _ _ (0) rfl hI rfl
  · intro gk a V hI'
    refine hI' _ ?_
    intro u8 u17 u18 u19 u20 u21 u77 u78 u79 u80 u81 u82 u83 u84 u85 u86 u87 u88 u89 u90 u91 u92 u93 u94 u95 u96 u97 u98 u99 u100 u101 u102 u103 u104 u105 u106 u107 u108 u109 u110 u111 u112 u113 u114 u115 u116 u117 u118 u119 u120 u121 u122 u123 u124 qq hk hinv ha
    subst ha
    subst hk
    refine soAb _ _ _ _ _ _ _ _ _ _ _ _ _ _ _ _ _ _ _ _ _ _ _ _ _ _ _ _ _ _ _ _ _ _ _ _ _ _ _ _ _ _ _ _ _ _ _ _ _ _ _ _ _ _ _ _ _ _ _ _ _ _ _ _ _ _ _ _ _ _ _ _ _ _ _ _ _ _ _ _ _ _ _ _ _ _ _ _ _ _ _ _ _ _ _ _ _ _ _ _ _ _ _ _ _ _ _ _ _ _ _ _ _ _ _ _ _ _ _ _ _ _ _ _ _ _ _ _ _ _ _ _ _ _ _ _ _ _ _ _ _ _ _ _ _ _ _ _ _ _ _ _ _ _ _ _ _ hQ st hsg hge hd4 hrow hlv hW hinv (fun v8 v17 v18 v19 v20 v21 v77 v78 v79 v80 v81 v82 v83 v84 v85 v86 v87 v88 v89 v90 v91 v92 v93 v94 v95 v96 v97 v98 v99 v100 v101 v102 v103 v104 v105 v106 v107 v108 v109 v110 v111 v112 v113 v114 v115 v116 v117 v118 v119 v120 v121 v122 v123 v124  V2 h2 hm => ?_) (fun v8 v17 v18 v19 v20 v21 v77 v78 v79 v80 v81 v82 v83 v84 v85 v86 v87 v88 v89 v90 v91 v92 v93 v94 v95 v96 v97 v98 v99 v100 v101 v102 v103 v104 v105 v106 v107 v108 v109 v110 v111 v112 v113 v114 v115 v116 v117 v118 v119 v120 v121 v122 v123 v124 hx => hX v8 v17 v18 v19 v20 v21 v77 v78 v79 v80 v81 v82 v83 v84 v85 v86 v87 v88 v89 v90 v91 v92 v93 v94 v95 v96 v97 v98 v99 v100 v101 v102 v103 v104 v105 v106 v107 v108 v109 v110 v111 v112 v113 v114 v115 v116 v117 v118 v119 v120 v121 v122 v123 v124 qq V hinv hx)
    refine ⟨_, hm, fun C hC => ?_⟩
    exact hC v8 v17 v18 v19 v20 v21 v77 v78 v79 v80 v81 v82 v83 v84 v85 v86 v87 v88 v89 v90 v91 v92 v93 v94 v95 v96 v97 v98 v99 v100 v101 v102 v103 v104 v105 v106 v107 v108 v109 v110 v111 v112 v113 v114 v115 v116 v117 v118 v119 v120 v121 v122 v123 v124 ((qq + 1)) rfl h2 rfl
set_option maxRecDepth 100000 in
set_option maxHeartbeats 3200000 in
theorem soDb {w0 : World} {b b2 gl : Nat} {H H2 : BH} {N M : Bch} {K0 : List (Nat × Obj)} {lv : List Bool} {s : Su} {gen : Int} {d : Nat} {w : World} (u1 u2 u3 u4 u5 u6 u7 u8 u10 u11 u12 u16 u17 u18 u19 u20 u21 u22 u23 u24 u25 u26 u27 u28 u29 u30 u31 u32 u33 u34 u35 u36 u37 u38 u39 u40 u41 u42 u43 u44 u45 u46 u47 u48 u49 u50 u51 u52 u53 u54 u55 u56 u57 u58 u59 u60 u61 u62 u63 u64 u65 u66 u67 u68 u69 u70 u71 u72 u73 u74 u75 u76 u77 u78 u79 u80 u81 u82 u83 u84 u85 u86 u87 u88 u89 u90 u91 u92 u93 u94 u95 u96 u97 u98 u99 u100 u101 u102 u103 u104 u105 u106 u107 u108 u109 u110 u111 u112 u113 u114 u115 u116 u117 u118 u119 u120 u121 u122 u123 u124 u125 u126 u127 u128 u129 u130 u131 u132 u133 u134 u135 u136 u137 u138 u139 u140 u141 u142 u143 u144 u145 u146 u147 u148 u149 u150 u151 u152 u153 u154 u155 u156 u157 u158 u159 u160 : Value) (K : Act → World → Prop) (Q0 : Exit → Act → World → Prop) (hQ : QG N) (st : StG N M lv s) (hsg : s.g = gen) (hge : 1 ≤ gen ∧ gen ≤ 5000) (hrow : (gl, Obj.cells (lv.map Value.bool).toArray 4 (0, 0)) ∈ K0) (hlv : lv.length = 4) (hW : ∀ V : World, (∀ p ∈ K0, V.heap[p.1]? = some p.2) → BAt V w0.heap.size b2 H2 N) (hI : (d ≤ 4 ∧ KX w0 w b H M K0))
    (hK : ∀ (v8 v16 v17 v18 v19 v20 v21 v73 v74 v75 v76 v77 v78 v79 v80 v81 v82 v83 v84 v85 v86 v87 v88 v89 v90 v91 v92 v93 v94 v95 v96 v97 v98 v99 v100 v101 v102 v103 v104 v105 v106 v107 v108 v109 v110 v111 v112 v113 v114 v115 v116 v117 v118 v119 v120 v121 v122 v123 v124 : Value)  (V : World), ((d + 1) ≤ 4 ∧ KX w0 V b H M K0) → 4 - (d + 1) < 4 - d → K ⟨List.toArray ((.int .i64 gen) :: u1 :: u2 :: u3 :: u4 :: u5 :: u6 :: u7 :: v8 :: (.pointer (some ⟨b, 0, none⟩)) :: u10 :: u11 :: u12 :: (.pointer (some ⟨b2, 0, none⟩)) :: (.slice (some ⟨gl, 0, none⟩) 4 4) :: (.int .i64 (((d + 1) : Nat) : Int)) :: v16 :: v17 :: v18 :: v19 :: v20 :: v21 :: u22 :: u23 :: u24 :: u25 :: u26 :: u27 :: u28 :: u29 :: u30 :: u31 :: u32 :: u33 :: u34 :: u35 :: u36 :: u37 :: u38 :: u39 :: u40 :: u41 :: u42 :: u43 :: u44 :: u45 :: u46 :: u47 :: u48 :: u49 :: u50 :: u51 :: u52 :: u53 :: u54 :: u55 :: u56 :: u57 :: u58 :: u59 :: u60 :: u61 :: u62 :: u63 :: u64 :: u65 :: u66 :: u67 :: u68 :: u69 :: u70 :: u71 :: u72 :: v73 :: v74 :: v75 :: v76 :: v77 :: v78 :: v79 :: v80 :: v81 :: v82 :: v83 :: v84 :: v85 :: v86 :: v87 :: v88 :: v89 :: v90 :: v91 :: v92 :: v93 :: v94 :: v95 :: v96 :: v97 :: v98 :: v99 :: v100 :: v101 :: v102 :: v103 :: v104 :: v105 :: v106 :: v107 :: v108 :: v109 :: v110 :: v111 :: v112 :: v113 :: v114 :: v115 :: v116 :: v117 :: v118 :: v119 :: v120 :: v121 :: v122 :: v123 :: v124 :: u125 :: u126 :: u127 :: u128 :: u129 :: u130 :: u131 :: u132 :: u133 :: u134 :: u135 :: u136 :: u137 :: u138 :: u139 :: u140 :: u141 :: u142 :: u143 :: u144 :: u145 :: u146 :: u147 :: u148 :: u149 :: u150 :: u151 :: u152 :: u153 :: u154 :: u155 :: u156 :: u157 :: u158 :: u159 :: u160 :: []), []⟩ V)
    (hX : ∀ (v8 v16 v17 v18 v19 v20 v21 v73 v74 v75 v76 v77 v78 v79 v80 v81 v82 v83 v84 v85 v86 v87 v88 v89 v90 v91 v92 v93 v94 v95 v96 v97 v98 v99 v100 v101 v102 v103 v104 v105 v106 v107 v108 v109 v110 v111 v112 v113 v114 v115 v116 v117 v118 v119 v120 v121 v122 v123 v124 : Value), (d = 4) → Q0 (.exit 2) ⟨List.toArray ((.int .i64 gen) :: u1 :: u2 :: u3 :: u4 :: u5 :: u6 :: u7 :: v8 :: (.pointer (some ⟨b, 0, none⟩)) :: u10 :: u11 :: u12 :: (.pointer (some ⟨b2, 0, none⟩)) :: (.slice (some ⟨gl, 0, none⟩) 4 4) :: (.int .i64 ((d : Nat) : Int)) :: v16 :: v17 :: v18 :: v19 :: v20 :: v21 :: u22 :: u23 :: u24 :: u25 :: u26 :: u27 :: u28 :: u29 :: u30 :: u31 :: u32 :: u33 :: u34 :: u35 :: u36 :: u37 :: u38 :: u39 :: u40 :: u41 :: u42 :: u43 :: u44 :: u45 :: u46 :: u47 :: u48 :: u49 :: u50 :: u51 :: u52 :: u53 :: u54 :: u55 :: u56 :: u57 :: u58 :: u59 :: u60 :: u61 :: u62 :: u63 :: u64 :: u65 :: u66 :: u67 :: u68 :: u69 :: u70 :: u71 :: u72 :: v73 :: v74 :: v75 :: v76 :: v77 :: v78 :: v79 :: v80 :: v81 :: v82 :: v83 :: v84 :: v85 :: v86 :: v87 :: v88 :: v89 :: v90 :: v91 :: v92 :: v93 :: v94 :: v95 :: v96 :: v97 :: v98 :: v99 :: v100 :: v101 :: v102 :: v103 :: v104 :: v105 :: v106 :: v107 :: v108 :: v109 :: v110 :: v111 :: v112 :: v113 :: v114 :: v115 :: v116 :: v117 :: v118 :: v119 :: v120 :: v121 :: v122 :: v123 :: v124 :: u125 :: u126 :: u127 :: u128 :: u129 :: u130 :: u131 :: u132 :: u133 :: u134 :: u135 :: u136 :: u137 :: u138 :: u139 :: u140 :: u141 :: u142 :: u143 :: u144 :: u145 :: u146 :: u147 :: u148 :: u149 :: u150 :: u151 :: u152 :: u153 :: u154 :: u155 :: u156 :: u157 :: u158 :: u159 :: u160 :: []), []⟩ w) :
    Code.wp Tryd.prog (sub [1, 1, 1, 1, 1, 1, 1, 1, 1, 0, 1, 0, 0] codeSO) (Exit.then K Q0) ⟨List.toArray ((.int .i64 gen) :: u1 :: u2 :: u3 :: u4 :: u5 :: u6 :: u7 :: u8 :: (.pointer (some ⟨b, 0, none⟩)) :: u10 :: u11 :: u12 :: (.pointer (some ⟨b2, 0, none⟩)) :: (.slice (some ⟨gl, 0, none⟩) 4 4) :: (.int .i64 ((d : Nat) : Int)) :: u16 :: u17 :: u18 :: u19 :: u20 :: u21 :: u22 :: u23 :: u24 :: u25 :: u26 :: u27 :: u28 :: u29 :: u30 :: u31 :: u32 :: u33 :: u34 :: u35 :: u36 :: u37 :: u38 :: u39 :: u40 :: u41 :: u42 :: u43 :: u44 :: u45 :: u46 :: u47 :: u48 :: u49 :: u50 :: u51 :: u52 :: u53 :: u54 :: u55 :: u56 :: u57 :: u58 :: u59 :: u60 :: u61 :: u62 :: u63 :: u64 :: u65 :: u66 :: u67 :: u68 :: u69 :: u70 :: u71 :: u72 :: u73 :: u74 :: u75 :: u76 :: u77 :: u78 :: u79 :: u80 :: u81 :: u82 :: u83 :: u84 :: u85 :: u86 :: u87 :: u88 :: u89 :: u90 :: u91 :: u92 :: u93 :: u94 :: u95 :: u96 :: u97 :: u98 :: u99 :: u100 :: u101 :: u102 :: u103 :: u104 :: u105 :: u106 :: u107 :: u108 :: u109 :: u110 :: u111 :: u112 :: u113 :: u114 :: u115 :: u116 :: u117 :: u118 :: u119 :: u120 :: u121 :: u122 :: u123 :: u124 :: u125 :: u126 :: u127 :: u128 :: u129 :: u130 :: u131 :: u132 :: u133 :: u134 :: u135 :: u136 :: u137 :: u138 :: u139 :: u140 :: u141 :: u142 :: u143 :: u144 :: u145 :: u146 :: u147 :: u148 :: u149 :: u150 :: u151 :: u152 :: u153 :: u154 :: u155 :: u156 :: u157 :: u158 :: u159 :: u160 :: []), []⟩ w := by
  have HK := Lib.hid hK
  have HX := Lib.hid hX
  clear hK hX
  conv => arg 2; whnf
  obtain ⟨hd, hK⟩ := hI
  by_cases hlt : d < 4
  · have d0 : (0 : Int) ≤ (d : Int) := by omega
    have d1 : (d : Int) < 4 := by omega
    have Hh := Lib.hid hK
    clear HX hK
    go_wp2_with fail
    refine soA _ _ _ _ _ _ _ _ _ _ _ _ _ _ _ _ _ _ _ _ _ _ _ _ _ _ _ _ _ _ _ _ _ _ _ _ _ _ _ _ _ _ _ _ _ _ _ _ _ _ _ _ _ _ _ _ _ _ _ _ _ _ _ _ _ _ _ _ _ _ _ _ _ _ _ _ _ _ _ _ _ _ _ _ _ _ _ _ _ _ _ _ _ _ _ _ _ _ _ _ _ _ _ _ _ _ _ _ _ _ _ _ _ _ _ _ _ _ _ _ _ _ _ _ _ _ _ _ _ _ _ _ _ _ _ _ _ _ _ _ _ _ _ _ _ _ _ _ _ _ _ _ _ _ _ _ (d := d) (N := N) (s := s) (lv := lv) hQ st hsg hge hlt hrow hlv hW ⟨Nat.zero_le _, Hh.out⟩ (fun v8 v17 v18 v19 v20 v21 v77 v78 v79 v80 v81 v82 v83 v84 v85 v86 v87 v88 v89 v90 v91 v92 v93 v94 v95 v96 v97 v98 v99 v100 v101 v102 v103 v104 v105 v106 v107 v108 v109 v110 v111 v112 v113 v114 v115 v116 v117 v118 v119 v120 v121 v122 v123 v124 qq V2 hI hx => ?_)
    have Hh2 := Lib.hid hI.2
    clear hI hx
    go_wp2_with fail
    exact HK.out _ _ _ _ _ _ _ _ _ _ _ _ _ _ _ _ _ _ _ _ _ _ _ _ _ _ _ _ _ _ _ _ _ _ _ _ _ _ _ _ _ _ _ _ _ _ _ _ _ _ _ _ _ _ _ _ _ _ _ _ ⟨by omega, Hh2.out⟩ (by omega)
  · have i1 : ¬ (d : Int) < 4 := by omega
    have hde : d = 4 := by omega
    have Hde := Lib.hid hde
    clear HK hde
    go_wp2_with fail
    exact HX.out _ _ _ _ _ _ _ _ _ _ _ _ _ _ _ _ _ _ _ _ _ _ _ _ _ _ _ _ _ _ _ _ _ _ _ _ _ _ _ _ _ _ _ _ _ _ _ _ _ _ _ _ _ _ _ _ _ _ _ Hde.out
set_option maxRecDepth 100000 in
set_option maxHeartbeats 3200000 in
theorem soD {w0 : World} {b b2 gl : Nat} {H H2 : BH} {N M : Bch} {K0 : List (Nat × Obj)} {lv : List Bool} {s : Su} {gen : Int}  {w : World} (u1 u2 u3 u4 u5 u6 u7 u8 u10 u11 u12 u16 u17 u18 u19 u20 u21 u22 u23 u24 u25 u26 u27 u28 u29 u30 u31 u32 u33 u34 u35 u36 u37 u38 u39 u40 u41 u42 u43 u44 u45 u46 u47 u48 u49 u50 u51 u52 u53 u54 u55 u56 u57 u58 u59 u60 u61 u62 u63 u64 u65 u66 u67 u68 u69 u70 u71 u72 u73 u74 u75 u76 u77 u78 u79 u80 u81 u82 u83 u84 u85 u86 u87 u88 u89 u90 u91 u92 u93 u94 u95 u96 u97 u98 u99 u100 u101 u102 u103 u104 u105 u106 u107 u108 u109 u110 u111 u112 u113 u114 u115 u116 u117 u118 u119 u120 u121 u122 u123 u124 u125 u126 u127 u128 u129 u130 u131 u132 u133 u134 u135 u136 u137 u138 u139 u140 u141 u142 u143 u144 u145 u146 u147 u148 u149 u150 u151 u152 u153 u154 u155 u156 u157 u158 u159 u160 : Value) (Q : Exit → Act → World → Prop) (hQ : QG N) (st : StG N M lv s) (hsg : s.g = gen) (hge : 1 ≤ gen ∧ gen ≤ 5000) (hrow : (gl, Obj.cells (lv.map Value.bool).toArray 4 (0, 0)) ∈ K0) (hlv : lv.length = 4) (hW : ∀ V : World, (∀ p ∈ K0, V.heap[p.1]? = some p.2) → BAt V w0.heap.size b2 H2 N) (hI : (0 ≤ 4 ∧ KX w0 w b H M K0))
    (hX : ∀ (v8 v16 v17 v18 v19 v20 v21 v73 v74 v75 v76 v77 v78 v79 v80 v81 v82 v83 v84 v85 v86 v87 v88 v89 v90 v91 v92 v93 v94 v95 v96 v97 v98 v99 v100 v101 v102 v103 v104 v105 v106 v107 v108 v109 v110 v111 v112 v113 v114 v115 v116 v117 v118 v119 v120 v121 v122 v123 v124 : Value) (d : Nat) (V : World), (d ≤ 4 ∧ KX w0 V b H M K0) → (d = 4) → Q (.exit 2) ⟨List.toArray ((.int .i64 gen) :: u1 :: u2 :: u3 :: u4 :: u5 :: u6 :: u7 :: v8 :: (.pointer (some ⟨b, 0, none⟩)) :: u10 :: u11 :: u12 :: (.pointer (some ⟨b2, 0, none⟩)) :: (.slice (some ⟨gl, 0, none⟩) 4 4) :: (.int .i64 ((d : Nat) : Int)) :: v16 :: v17 :: v18 :: v19 :: v20 :: v21 :: u22 :: u23 :: u24 :: u25 :: u26 :: u27 :: u28 :: u29 :: u30 :: u31 :: u32 :: u33 :: u34 :: u35 :: u36 :: u37 :: u38 :: u39 :: u40 :: u41 :: u42 :: u43 :: u44 :: u45 :: u46 :: u47 :: u48 :: u49 :: u50 :: u51 :: u52 :: u53 :: u54 :: u55 :: u56 :: u57 :: u58 :: u59 :: u60 :: u61 :: u62 :: u63 :: u64 :: u65 :: u66 :: u67 :: u68 :: u69 :: u70 :: u71 :: u72 :: v73 :: v74 :: v75 :: v76 :: v77 :: v78 :: v79 :: v80 :: v81 :: v82 :: v83 :: v84 :: v85 :: v86 :: v87 :: v88 :: v89 :: v90 :: v91 :: v92 :: v93 :: v94 :: v95 :: v96 :: v97 :: v98 :: v99 :: v100 :: v101 :: v102 :: v103 :: v104 :: v105 :: v106 :: v107 :: v108 :: v109 :: v110 :: v111 :: v112 :: v113 :: v114 :: v115 :: v116 :: v117 :: v118 :: v119 :: v120 :: v121 :: v122 :: v123 :: v124 :: u125 :: u126 :: u127 :: u128 :: u129 :: u130 :: u131 :: u132 :: u133 :: u134 :: u135 :: u136 :: u137 :: u138 :: u139 :: u140 :: u141 :: u142 :: u143 :: u144 :: u145 :: u146 :: u147 :: u148 :: u149 :: u150 :: u151 :: u152 :: u153 :: u154 :: u155 :: u156 :: u157 :: u158 :: u159 :: u160 :: []), []⟩ V) :
    Code.wp Tryd.prog (.loop (sub [1, 1, 1, 1, 1, 1, 1, 1, 1, 0, 1, 0, 0] codeSO)) Q ⟨List.toArray ((.int .i64 gen) :: u1 :: u2 :: u3 :: u4 :: u5 :: u6 :: u7 :: u8 :: (.pointer (some ⟨b, 0, none⟩)) :: u10 :: u11 :: u12 :: (.pointer (some ⟨b2, 0, none⟩)) :: (.slice (some ⟨gl, 0, none⟩) 4 4) :: (.int .i64 ((0 : Nat) : Int)) :: u16 :: u17 :: u18 :: u19 :: u20 :: u21 :: u22 :: u23 :: u24 :: u25 :: u26 :: u27 :: u28 :: u29 :: u30 :: u31 :: u32 :: u33 :: u34 :: u35 :: u36 :: u37 :: u38 :: u39 :: u40 :: u41 :: u42 :: u43 :: u44 :: u45 :: u46 :: u47 :: u48 :: u49 :: u50 :: u51 :: u52 :: u53 :: u54 :: u55 :: u56 :: u57 :: u58 :: u59 :: u60 :: u61 :: u62 :: u63 :: u64 :: u65 :: u66 :: u67 :: u68 :: u69 :: u70 :: u71 :: u72 :: u73 :: u74 :: u75 :: u76 :: u77 :: u78 :: u79 :: u80 :: u81 :: u82 :: u83 :: u84 :: u85 :: u86 :: u87 :: u88 :: u89 :: u90 :: u91 :: u92 :: u93 :: u94 :: u95 :: u96 :: u97 :: u98 :: u99 :: u100 :: u101 :: u102 :: u103 :: u104 :: u105 :: u106 :: u107 :: u108 :: u109 :: u110 :: u111 :: u112 :: u113 :: u114 :: u115 :: u116 :: u117 :: u118 :: u119 :: u120 :: u121 :: u122 :: u123 :: u124 :: u125 :: u126 :: u127 :: u128 :: u129 :: u130 :: u131 :: u132 :: u133 :: u134 :: u135 :: u136 :: u137 :: u138 :: u139 :: u140 :: u141 :: u142 :: u143 :: u144 :: u145 :: u146 :: u147 :: u148 :: u149 :: u150 :: u151 :: u152 :: u153 :: u154 :: u155 :: u156 :: u157 :: u158 :: u159 :: u160 :: []), []⟩ w := by
  refine wp_loop_ghost (fun gk a V => ∀ C : Prop, (∀ (u8 u16 u17 u18 u19 u20 u21 u73 u74 u75 u76 u77 u78 u79 u80 u81 u82 u83 u84 u85 u86 u87 u88 u89 u90 u91 u92 u93 u94 u95 u96 u97 u98 u99 u100 u101 u102 u103 u104 u105 u106 u107 u108 u109 u110 u111 u112 u113 u114 u115 u116 u117 u118 u119 u120 u121 u122 u123 u124 : Value) (d : Nat), gk = 4 - d → (d ≤ 4 ∧ KX w0 V b H M K0) → a = ⟨List.toArray ((.int .i64 gen) :: u1 :: u2 :: u3 :: u4 :: u5 :: u6 :: u7 :: u8 :: (.pointer (some ⟨b, 0, none⟩)) :: u10 :: u11 :: u12 :: (.pointer (some ⟨b2, 0, none⟩)) :: (.slice (some ⟨gl, 0, none⟩) 4 4) :: (.int .i64 ((d : Nat) : Int)) :: u16 :: u17 :: u18 :: u19 :: u20 :: u21 :: u22 :: u23 :: u24 :: u25 :: u26 :: u27 :: u28 :: u29 :: u30 :: u31 :: u32 :: u33 :: u34 :: u35 :: u36 :: u37 :: u38 :: u39 :: u40 :: u41 :: u42 :: u43 :: u44 :: u45 :: u46 :: u47 :: u48 :: u49 :: u50 :: u51 :: u52 :: u53 :: u54 :: u55 :: u56 :: u57 :: u58 :: u59 :: u60 :: u61 :: u62 :: u63 :: u64 :: u65 :: u66 :: u67 :: u68 :: u69 :: u70 :: u71 :: u72 :: u73 :: u74 :: u75 :: u76 :: u77 :: u78 :: u79 :: u80 :: u81 :: u82 :: u83 :: u84 :: u85 :: u86 :: u87 :: u88 :: u89 :: u90 :: u91 :: u92 :: u93 :: u94 :: u95 :: u96 :: u97 :: u98 :: u99 :: u100 :: u101 :: u102 :: u103 :: u104 :: u105 :: u106 :: u107 :: u108 :: u109 :: u110 :: u111 :: u112 :: u113 :: u114 :: u115 :: u116 :: u117 :: u118 :: u119 :: u120 :: u121 :: u122 :: u123 :: u124 :: u125 :: u126 :: u127 :: u128 :: u129 :: u130 :: u131 :: u132 :: u133 :: u134 :: u135 :: u136 :: u137 :: u138 :: u139 :: u140 :: u141 :: u142 :: u143 :: u144 :: u145 :: u146 :: u147 :: u148 :: u149 :: u150 :: u151 :: u152 :: u153 :: u154 :: u155 :: u156 :: u157 :: u158 :: u159 :: u160 :: []), []⟩ → C) → C) (4 - 0) ?_ ?_
  · intro C hC
    exact hC _ _ _ _ _ _ _ _ _ _ _ _ _ _ _ _ _ _ _ _ _ _ _ _ _ _ _ _ _ _ _ _ _ _ _ _ _ _ _ _ _ _ _ _ _ _ _ _ _ _ _ _ _ _ _ _ _ _ _ (0) rfl hI rfl
  · intro gk a V hI'
    refine hI' _ ?_
    intro u8 u16 u17 u18 u19 u20 u21 u73 u74 u75 u76 u77 u78 u79 u80 u81 u82 u83 u84 u85 u86 u87 u88 u89 u90 u91 u92 u93 u94 u95 u96 u97 u98 u99 u100 u101 u102 u103 u104 u105 u106 u107 u108 u109 u110 u111 u112 u113 u114 u115 u116 u117 u118 u119 u120 u121 u122 u123 u124 d hk hinv ha
    subst ha
    subst hk
    refine soDb _ _ _ _ _ _ _ _ _ _ _ _ _ _ _ _ _ _ _ _ _ _ _ _ _ _ _ _ _ _ _ _ _ _ _ _ _ _ _ _ _ _ _ _ _ _ _ _ _ _ _ _ _ _ _ _ _ _ _ _ _ _ _ _ _ _ _ _ _ _ _ _ _ _ _ _ _ _ _ _ _ _ _ _ _ _ _ _ _ _ _ _ _ _ _ _ _ _ _ _ _ _ _ _ _ _ _ _ _ _ _ _ _ _ _ _ _ _ _ _ _ _ _ _ _ _ _ _ _ _ _ _ _ _ _ _ _ _ _ _ _ _ _ _ _ _ _ _ _ _ _ _ _ _ _ _ _ _ hQ st hsg hge hrow hlv hW hinv (fun v8 v16 v17 v18 v19 v20 v21 v73 v74 v75 v76 v77 v78 v79 v80 v81 v82 v83 v84 v85 v86 v87 v88 v89 v90 v91 v92 v93 v94 v95 v96 v97 v98 v99 v100 v101 v102 v103 v104 v105 v106 v107 v108 v109 v110 v111 v112 v113 v114 v115 v116 v117 v118 v119 v120 v121 v122 v123 v124  V2 h2 hm => ?_) (fun v8 v16 v17 v18 v19 v20 v21 v73 v74 v75 v76 v77 v78 v79 v80 v81 v82 v83 v84 v85 v86 v87 v88 v89 v90 v91 v92 v93 v94 v95 v96 v97 v98 v99 v100 v101 v102 v103 v104 v105 v106 v107 v108 v109 v110 v111 v112 v113 v114 v115 v116 v117 v118 v119 v120 v121 v122 v123 v124 hx => hX v8 v16 v17 v18 v19 v20 v21 v73 v74 v75 v76 v77 v78 v79 v80 v81 v82 v83 v84 v85 v86 v87 v88 v89 v90 v91 v92 v93 v94 v95 v96 v97 v98 v99 v100 v101 v102 v103 v104 v105 v106 v107 v108 v109 v110 v111 v112 v113 v114 v115 v116 v117 v118 v119 v120 v121 v122 v123 v124 d V hinv hx)
    refine ⟨_, hm, fun C hC => ?_⟩
    exact hC v8 v16 v17 v18 v19 v20 v21 v73 v74 v75 v76 v77 v78 v79 v80 v81 v82 v83 v84 v85 v86 v87 v88 v89 v90 v91 v92 v93 v94 v95 v96 v97 v98 v99 v100 v101 v102 v103 v104 v105 v106 v107 v108 v109 v110 v111 v112 v113 v114 v115 v116 v117 v118 v119 v120 v121 v122 v123 v124 ((d + 1)) rfl h2 rfl
set_option maxRecDepth 100000 in
set_option maxHeartbeats 3200000 in
theorem soHb {w0 : World} {gh gl cap : Nat} {lv : List Bool} {d : Nat} {w : World} (u0 u1 u2 u3 u4 u5 u6 u7 u8 u9 u10 u11 u12 u13 u15 u16 u17 u18 u19 u20 u21 u22 u24 u25 u26 u27 u28 u29 u30 u31 u32 u33 u34 u35 u36 u37 u38 u39 u40 u41 u42 u43 u44 u45 u46 u47 u48 u49 u50 u51 u52 u53 u54 u55 u56 u57 u58 u59 u60 u61 u62 u63 u64 u65 u66 u67 u68 u69 u70 u71 u72 u73 u74 u75 u76 u77 u78 u79 u80 u81 u82 u83 u84 u85 u86 u87 u88 u89 u90 u91 u92 u93 u94 u95 u96 u97 u98 u99 u100 u101 u102 u103 u104 u105 u106 u107 u108 u109 u110 u111 u112 u113 u114 u115 u116 u117 u118 u119 u120 u121 u122 u123 u124 u125 u126 u127 u128 u129 u130 u131 u132 u133 u134 u135 u136 u137 u138 u139 u140 u141 u142 u143 u144 u145 u148 u149 u150 u151 u152 u153 u154 u155 u156 u157 u158 u159 u160 : Value) (K : Act → World → Prop) (Q0 : Exit → Act → World → Prop) (hcap : 4 ≤ cap) (hI : (d ≤ 4 ∧ (∀ k, k < 4 → w.cell? ⟨gh, k, none⟩ = some (.bool (lv.getD k false)) ∧ w.cell? ⟨gl, k, none⟩ = some (.bool (lv.getD k false))) ∧ Below w0.heap.size w0 w))
    (hK : ∀ (v8 v25 v148 v149 v150 v151 v152 v153 v154 v155 v156 v157 v158 v159 : Value)  (V : World), ((d + 1) ≤ 4 ∧ (∀ k, k < 4 → V.cell? ⟨gh, k, none⟩ = some (.bool (lv.getD k false)) ∧ V.cell? ⟨gl, k, none⟩ = some (.bool (lv.getD k false))) ∧ Below w0.heap.size w0 V) → 4 - (d + 1) < 4 - d → K ⟨List.toArray (u0 :: u1 :: u2 :: u3 :: u4 :: u5 :: u6 :: u7 :: v8 :: u9 :: u10 :: u11 :: u12 :: u13 :: (.slice (some ⟨gl, 0, none⟩) 4 4) :: u15 :: u16 :: u17 :: u18 :: u19 :: u20 :: u21 :: u22 :: (.slice (some ⟨gh, 0, none⟩) 4 cap) :: u24 :: v25 :: u26 :: u27 :: u28 :: u29 :: u30 :: u31 :: u32 :: u33 :: u34 :: u35 :: u36 :: u37 :: u38 :: u39 :: u40 :: u41 :: u42 :: u43 :: u44 :: u45 :: u46 :: u47 :: u48 :: u49 :: u50 :: u51 :: u52 :: u53 :: u54 :: u55 :: u56 :: u57 :: u58 :: u59 :: u60 :: u61 :: u62 :: u63 :: u64 :: u65 :: u66 :: u67 :: u68 :: u69 :: u70 :: u71 :: u72 :: u73 :: u74 :: u75 :: u76 :: u77 :: u78 :: u79 :: u80 :: u81 :: u82 :: u83 :: u84 :: u85 :: u86 :: u87 :: u88 :: u89 :: u90 :: u91 :: u92 :: u93 :: u94 :: u95 :: u96 :: u97 :: u98 :: u99 :: u100 :: u101 :: u102 :: u103 :: u104 :: u105 :: u106 :: u107 :: u108 :: u109 :: u110 :: u111 :: u112 :: u113 :: u114 :: u115 :: u116 :: u117 :: u118 :: u119 :: u120 :: u121 :: u122 :: u123 :: u124 :: u125 :: u126 :: u127 :: u128 :: u129 :: u130 :: u131 :: u132 :: u133 :: u134 :: u135 :: u136 :: u137 :: u138 :: u139 :: u140 :: u141 :: u142 :: u143 :: u144 :: u145 :: (.int .i64 4) :: (.int .i64 (((d + 1) : Nat) : Int)) :: v148 :: v149 :: v150 :: v151 :: v152 :: v153 :: v154 :: v155 :: v156 :: v157 :: v158 :: v159 :: u160 :: []), []⟩ V)
    (hX : ∀ (v8 v25 v148 v149 v150 v151 v152 v153 v154 v155 v156 v157 v158 v159 : Value), (d = 4) → Q0 (.exit 6) ⟨List.toArray (u0 :: u1 :: u2 :: u3 :: u4 :: u5 :: u6 :: u7 :: v8 :: u9 :: u10 :: u11 :: u12 :: u13 :: (.slice (some ⟨gl, 0, none⟩) 4 4) :: u15 :: u16 :: u17 :: u18 :: u19 :: u20 :: u21 :: u22 :: (.slice (some ⟨gh, 0, none⟩) 4 cap) :: u24 :: v25 :: u26 :: u27 :: u28 :: u29 :: u30 :: u31 :: u32 :: u33 :: u34 :: u35 :: u36 :: u37 :: u38 :: u39 :: u40 :: u41 :: u42 :: u43 :: u44 :: u45 :: u46 :: u47 :: u48 :: u49 :: u50 :: u51 :: u52 :: u53 :: u54 :: u55 :: u56 :: u57 :: u58 :: u59 :: u60 :: u61 :: u62 :: u63 :: u64 :: u65 :: u66 :: u67 :: u68 :: u69 :: u70 :: u71 :: u72 :: u73 :: u74 :: u75 :: u76 :: u77 :: u78 :: u79 :: u80 :: u81 :: u82 :: u83 :: u84 :: u85 :: u86 :: u87 :: u88 :: u89 :: u90 :: u91 :: u92 :: u93 :: u94 :: u95 :: u96 :: u97 :: u98 :: u99 :: u100 :: u101 :: u102 :: u103 :: u104 :: u105 :: u106 :: u107 :: u108 :: u109 :: u110 :: u111 :: u112 :: u113 :: u114 :: u115 :: u116 :: u117 :: u118 :: u119 :: u120 :: u121 :: u122 :: u123 :: u124 :: u125 :: u126 :: u127 :: u128 :: u129 :: u130 :: u131 :: u132 :: u133 :: u134 :: u135 :: u136 :: u137 :: u138 :: u139 :: u140 :: u141 :: u142 :: u143 :: u144 :: u145 :: (.int .i64 4) :: (.int .i64 ((d : Nat) : Int)) :: v148 :: v149 :: v150 :: v151 :: v152 :: v153 :: v154 :: v155 :: v156 :: v157 :: v158 :: v159 :: u160 :: []), []⟩ w) :
    Code.wp Tryd.prog (sub [1, 1, 1, 1, 1, 1, 1, 1, 1, 1, 1, 1, 0, 1, 0, 0] codeSO) (Exit.then K Q0) ⟨List.toArray (u0 :: u1 :: u2 :: u3 :: u4 :: u5 :: u6 :: u7 :: u8 :: u9 :: u10 :: u11 :: u12 :: u13 :: (.slice (some ⟨gl, 0, none⟩) 4 4) :: u15 :: u16 :: u17 :: u18 :: u19 :: u20 :: u21 :: u22 :: (.slice (some ⟨gh, 0, none⟩) 4 cap) :: u24 :: u25 :: u26 :: u27 :: u28 :: u29 :: u30 :: u31 :: u32 :: u33 :: u34 :: u35 :: u36 :: u37 :: u38 :: u39 :: u40 :: u41 :: u42 :: u43 :: u44 :: u45 :: u46 :: u47 :: u48 :: u49 :: u50 :: u51 :: u52 :: u53 :: u54 :: u55 :: u56 :: u57 :: u58 :: u59 :: u60 :: u61 :: u62 :: u63 :: u64 :: u65 :: u66 :: u67 :: u68 :: u69 :: u70 :: u71 :: u72 :: u73 :: u74 :: u75 :: u76 :: u77 :: u78 :: u79 :: u80 :: u81 :: u82 :: u83 :: u84 :: u85 :: u86 :: u87 :: u88 :: u89 :: u90 :: u91 :: u92 :: u93 :: u94 :: u95 :: u96 :: u97 :: u98 :: u99 :: u100 :: u101 :: u102 :: u103 :: u104 :: u105 :: u106 :: u107 :: u108 :: u109 :: u110 :: u111 :: u112 :: u113 :: u114 :: u115 :: u116 :: u117 :: u118 :: u119 :: u120 :: u121 :: u122 :: u123 :: u124 :: u125 :: u126 :: u127 :: u128 :: u129 :: u130 :: u131 :: u132 :: u133 :: u134 :: u135 :: u136 :: u137 :: u138 :: u139 :: u140 :: u141 :: u142 :: u143 :: u144 :: u145 :: (.int .i64 4) :: (.int .i64 ((d : Nat) : Int)) :: u148 :: u149 :: u150 :: u151 :: u152 :: u153 :: u154 :: u155 :: u156 :: u157 :: u158 :: u159 :: u160 :: []), []⟩ w := by
  have HK := Lib.hid hK
  have HX := Lib.hid hX
  clear hK hX
  conv => arg 2; whnf
  obtain ⟨hd, hc, hB⟩ := hI
  by_cases hlt : d < 4
  · have d0 : (0 : Int) ≤ (d : Int) := by omega
    have d1 : (d : Int) < 4 := by omega
    have d2 : (d : Int) < (cap : Int) := by omega
    obtain ⟨c1, c2⟩ := hc d hlt
    have Hc := Lib.hid hc
    have HB := Lib.hid hB
    have Hfin := Lib.hid (show ∀ n, (∀ k, k < 4 → (w.drewN n).cell? ⟨gh, k, none⟩ = some (.bool (lv.getD k false)) ∧ (w.drewN n).cell? ⟨gl, k, none⟩ = some (.bool (lv.getD k false))) ∧ Below w0.heap.size w0 (w.drewN n) from fun n => ⟨fun k hk => hc k hk, hB.trans (belowN _ _ n)⟩)
    generalize lv.getD d false = x at c1 c2
    clear HX hc hB
    cases x with
    | false =>
      go_wp2_with fail
      go_quiet (fail)
      go_wp2_with fail
      exact HK.out _ _ _ _ _ _ _ _ _ _ _ _ _ _ _ ⟨by omega, Hfin.out _⟩ (by omega)
    | true =>
      go_wp2_with fail
      go_quiet (fail)
      go_wp2_with fail
      exact HK.out _ _ _ _ _ _ _ _ _ _ _ _ _ _ _ ⟨by omega, Hfin.out _⟩ (by omega)
  · have i1 : ¬ (d : Int) < 4 := by omega
    have hde : d = 4 := by omega
    have Hde := Lib.hid hde
    clear HK hde
    go_wp2_with fail
    exact HX.out _ _ _ _ _ _ _ _ _ _ _ _ _ _ Hde.out
set_option maxRecDepth 100000 in
set_option maxHeartbeats 3200000 in
theorem soH {w0 : World} {gh gl cap : Nat} {lv : List Bool}  {w : World} (u0 u1 u2 u3 u4 u5 u6 u7 u8 u9 u10 u11 u12 u13 u15 u16 u17 u18 u19 u20 u21 u22 u24 u25 u26 u27 u28 u29 u30 u31 u32 u33 u34 u35 u36 u37 u38 u39 u40 u41 u42 u43 u44 u45 u46 u47 u48 u49 u50 u51 u52 u53 u54 u55 u56 u57 u58 u59 u60 u61 u62 u63 u64 u65 u66 u67 u68 u69 u70 u71 u72 u73 u74 u75 u76 u77 u78 u79 u80 u81 u82 u83 u84 u85 u86 u87 u88 u89 u90 u91 u92 u93 u94 u95 u96 u97 u98 u99 u100 u101 u102 u103 u104 u105 u106 u107 u108 u109 u110 u111 u112 u113 u114 u115 u116 u117 u118 u119 u120 u121 u122 u123 u124 u125 u126 u127 u128 u129 u130 u131 u132 u133 u134 u135 u136 u137 u138 u139 u140 u141 u142 u143 u144 u145 u148 u149 u150 u151 u152 u153 u154 u155 u156 u157 u158 u159 u160 : Value) (Q : Exit → Act → World → Prop) (hcap : 4 ≤ cap) (hI : (0 ≤ 4 ∧ (∀ k, k < 4 → w.cell? ⟨gh, k, none⟩ = some (.bool (lv.getD k false)) ∧ w.cell? ⟨gl, k, none⟩ = some (.bool (lv.getD k false))) ∧ Below w0.heap.size w0 w))
    (hX : ∀ (v8 v25 v148 v149 v150 v151 v152 v153 v154 v155 v156 v157 v158 v159 : Value) (d : Nat) (V : World), (d ≤ 4 ∧ (∀ k, k < 4 → V.cell? ⟨gh, k, none⟩ = some (.bool (lv.getD k false)) ∧ V.cell? ⟨gl, k, none⟩ = some (.bool (lv.getD k false))) ∧ Below w0.heap.size w0 V) → (d = 4) → Q (.exit 6) ⟨List.toArray (u0 :: u1 :: u2 :: u3 :: u4 :: u5 :: u6 :: u7 :: v8 :: u9 :: u10 :: u11 :: u12 :: u13 :: (.slice (some ⟨gl, 0, none⟩) 4 4) :: u15 :: u16 :: u17 :: u18 :: u19 :: u20 :: u21 :: u22 :: (.slice (some ⟨gh, 0, none⟩) 4 cap) :: u24 :: v25 :: u26 :: u27 :: u28 :: u29 :: u30 :: u31 :: u32 :: u33 :: u34 :: u35 :: u36 :: u37 :: u38 :: u39 :: u40 :: u41 :: u42 :: u43 :: u44 :: u45 :: u46 :: u47 :: u48 :: u49 :: u50 :: u51 :: u52 :: u53 :: u54 :: u55 :: u56 :: u57 :: u58 :: u59 :: u60 :: u61 :: u62 :: u63 :: u64 :: u65 :: u66 :: u67 :: u68 :: u69 :: u70 :: u71 :: u72 :: u73 :: u74 :: u75 :: u76 :: u77 :: u78 :: u79 :: u80 :: u81 :: u82 :: u83 :: u84 :: u85 :: u86 :: u87 :: u88 :: u89 :: u90 :: u91 :: u92 :: u93 :: u94 :: u95 :: u96 :: u97 :: u98 :: u99 :: u100 :: u101 :: u102 :: u103 :: u104 :: u105 :: u106 :: u107 :: u108 :: u109 :: u110 :: u111 :: u112 :: u113 :: u114 :: u115 :: u116 :: u117 :: u118 :: u119 :: u120 :: u121 :: u122 :: u123 :: u124 :: u125 :: u126 :: u127 :: u128 :: u129 :: u130 :: u131 :: u132 :: u133 :: u134 :: u135 :: u136 :: u137 :: u138 :: u139 :: u140 :: u141 :: u142 :: u143 :: u144 :: u145 :: (.int .i64 4) :: (.int .i64 ((d : Nat) : Int)) :: v148 :: v149 :: v150 :: v151 :: v152 :: v153 :: v154 :: v155 :: v156 :: v157 :: v158 :: v159 :: u160 :: []), []⟩ V) :
    Code.wp Tryd.prog (.loop (sub [1, 1, 1, 1, 1, 1, 1, 1, 1, 1, 1, 1, 0, 1, 0, 0] codeSO)) Q ⟨List.toArray (u0 :: u1 :: u2 :: u3 :: u4 :: u5 :: u6 :: u7 :: u8 :: u9 :: u10 :: u11 :: u12 :: u13 :: (.slice (some ⟨gl, 0, none⟩) 4 4) :: u15 :: u16 :: u17 :: u18 :: u19 :: u20 :: u21 :: u22 :: (.slice (some ⟨gh, 0, none⟩) 4 cap) :: u24 :: u25 :: u26 :: u27 :: u28 :: u29 :: u30 :: u31 :: u32 :: u33 :: u34 :: u35 :: u36 :: u37 :: u38 :: u39 :: u40 :: u41 :: u42 :: u43 :: u44 :: u45 :: u46 :: u47 :: u48 :: u49 :: u50 :: u51 :: u52 :: u53 :: u54 :: u55 :: u56 :: u57 :: u58 :: u59 :: u60 :: u61 :: u62 :: u63 :: u64 :: u65 :: u66 :: u67 :: u68 :: u69 :: u70 :: u71 :: u72 :: u73 :: u74 :: u75 :: u76 :: u77 :: u78 :: u79 :: u80 :: u81 :: u82 :: u83 :: u84 :: u85 :: u86 :: u87 :: u88 :: u89 :: u90 :: u91 :: u92 :: u93 :: u94 :: u95 :: u96 :: u97 :: u98 :: u99 :: u100 :: u101 :: u102 :: u103 :: u104 :: u105 :: u106 :: u107 :: u108 :: u109 :: u110 :: u111 :: u112 :: u113 :: u114 :: u115 :: u116 :: u117 :: u118 :: u119 :: u120 :: u121 :: u122 :: u123 :: u124 :: u125 :: u126 :: u127 :: u128 :: u129 :: u130 :: u131 :: u132 :: u133 :: u134 :: u135 :: u136 :: u137 :: u138 :: u139 :: u140 :: u141 :: u142 :: u143 :: u144 :: u145 :: (.int .i64 4) :: (.int .i64 ((0 : Nat) : Int)) :: u148 :: u149 :: u150 :: u151 :: u152 :: u153 :: u154 :: u155 :: u156 :: u157 :: u158 :: u159 :: u160 :: []), []⟩ w := by
  refine wp_loop_ghost (fun gk a V => ∀ C : Prop, (∀ (u8 u25 u148 u149 u150 u151 u152 u153 u154 u155 u156 u157 u158 u159 : Value) (d : Nat), gk = 4 - d → (d ≤ 4 ∧ (∀ k, k < 4 → V.cell? ⟨gh, k, none⟩ = some (.bool (lv.getD k false)) ∧ V.cell? ⟨gl, k, none⟩ = some (.bool (lv.getD k false))) ∧ Below w0.heap.size w0 V) → a = ⟨List.toArray (u0 :: u1 :: u2 :: u3 :: u4 :: u5 :: u6 :: u7 :: u8 :: u9 :: u10 :: u11 :: u12 :: u13 :: (.slice (some ⟨gl, 0, none⟩) 4 4) :: u15 :: u16 :: u17 :: u18 :: u19 :: u20 :: u21 :: u22 :: (.slice (some ⟨gh, 0, none⟩) 4 cap) :: u24 :: u25 :: u26 :: u27 :: u28 :: u29 :: u30 :: u31 :: u32 :: u33 :: u34 :: u35 :: u36 :: u37 :: u38 :: u39 :: u40 :: u41 :: u42 :: u43 :: u44 :: u45 :: u46 :: u47 :: u48 :: u49 :: u50 :: u51 :: u52 :: u53 :: u54 :: u55 :: u56 :: u57 :: u58 :: u59 :: u60 :: u61 :: u62 :: u63 :: u64 :: u65 :: u66 :: u67 :: u68 :: u69 :: u70 :: u71 :: u72 :: u73 :: u74 :: u75 :: u76 :: u77 :: u78 :: u79 :: u80 :: u81 :: u82 :: u83 :: u84 :: u85 :: u86 :: u87 :: u88 :: u89 :: u90 :: u91 :: u92 :: u93 :: u94 :: u95 :: u96 :: u97 :: u98 :: u99 :: u100 :: u101 :: u102 :: u103 :: u104 :: u105 :: u106 :: u107 :: u108 :: u109 :: u110 :: u111 :: u112 :: u113 :: u114 :: u115 :: u116 :: u117 :: u118 :: u119 :: u120 :: u121 :: u122 :: u123 :: u124 :: u125 :: u126 :: u127 :: u128 :: u129 :: u130 :: u131 :: u132 :: u133 :: u134 :: u135 :: u136 :: u137 :: u138 :: u139 :: u140 :: u141 :: u142 :: u143 :: u144 :: u145 :: (.int .i64 4) :: (.int .i64 ((d : Nat) : Int)) :: u148 :: u149 :: u150 :: u151 :: u152 :: u153 :: u154 :: u155 :: u156 :: u157 :: u158 :: u159 :: u160 :: []), []⟩ → C) → C) (4 - 0) ?_ ?_
  · intro C hC
    exact hC _ _ _ _ _ _ _ _ _ _ _ _ _ _ (0) rfl hI rfl
  · intro gk a V hI'
    refine hI' _ ?_
    intro u8 u25 u148 u149 u150 u151 u152 u153 u154 u155 u156 u157 u158 u159 d hk hinv ha
    subst ha
    subst hk
    refine soHb _ _ _ _ _ _ _ _ _ _ _ _ _ _ _ _ _ _ _ _ _ _ _ _ _ _ _ _ _ _ _ _ _ _ _ _ _ _ _ _ _ _ _ _ _ _ _ _ _ _ _ _ _ _ _ _ _ _ _ _ _ _ _ _ _ _ _ _ _ _ _ _ _ _ _ _ _ _ _ _ _ _ _ _ _ _ _ _ _ _ _ _ _ _ _ _ _ _ _ _ _ _ _ _ _ _ _ _ _ _ _ _ _ _ _ _ _ _ _ _ _ _ _ _ _ _ _ _ _ _ _ _ _ _ _ _ _ _ _ _ _ _ _ _ _ _ _ _ _ _ _ _ _ _ _ _ _ _ _ hcap hinv (fun v8 v25 v148 v149 v150 v151 v152 v153 v154 v155 v156 v157 v158 v159  V2 h2 hm => ?_) (fun v8 v25 v148 v149 v150 v151 v152 v153 v154 v155 v156 v157 v158 v159 hx => hX v8 v25 v148 v149 v150 v151 v152 v153 v154 v155 v156 v157 v158 v159 d V hinv hx)
    refine ⟨_, hm, fun C hC => ?_⟩
    exact hC v8 v25 v148 v149 v150 v151 v152 v153 v154 v155 v156 v157 v158 v159 ((d + 1)) rfl h2 rfl
end Go.Proofs.YtiipdhmfdgbmiaaDoor
