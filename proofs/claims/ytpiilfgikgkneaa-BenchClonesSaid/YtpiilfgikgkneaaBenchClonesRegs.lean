/- BenchClones: its loops. -/
import Derived.Test.YtpiilfgikgkneaaBchTwo
import Derived.Test.YtpiilfgikgkneaaOrd
import Derived.Test.YtpiilfgikgkneaaSub
set_option linter.unusedVariables false
set_option linter.unusedSimpArgs false
namespace Go.Proofs.Ytpiilfgikgkneaa
open Go.RowKit

noncomputable def codeBL : Code := Try.f7.body.getD .skip
set_option maxRecDepth 100000 in
set_option maxHeartbeats 3200000 in
theorem bl4 {W : World} {b : Nat} {l0 : Int} {H : BH} {N : Bch} {w : World} (u0 u2 u3 u4 u5 u6 u8 u9 u10 u11 u12 u13 u14 u15 u16 u17 u18 u19 u20 u21 u22 u23 u24 u25 u26 u27 u28 u29 u30 u31 u32 u33 u34 u35 u36 u37 u38 u39 u40 u41 u42 u43 u44 u45 u46 u47 u48 u49 u50 u51 u52 u53 u54 u55 u56 u57 u58 u59 u60 u61 u62 u63 u64 u65 u66 u67 u68 u69 u70 u71 u72 u73 u74 u75 u76 u77 u78 u79 u80 u81 u82 u83 u84 u85 u86 u87 u88 u89 u90 u91 u92 u93 u94 u95 u96 u97 u98 u99 u100 u101 u102 u103 u104 u105 u106 u107 u108 u109 u110 u111 u112 u113 u114 u115 u116 u117 u118 u119 u120 u121 u122 u123 u124 u125 u126 u127 u128 u129 u130 u131 u132 u133 u134 u135 u136 u137 u138 u139 u140 u141 u142 u143 u144 u145 u146 u147 u148 u149 u150 u151 u152 u153 u154 u155 u156 u157 u158 u159 u160 u161 u162 u163 u164 u165 u166 u167 u168 u169 u170 u171 u172 u173 u174 u175 u176 u177 u178 u179 u180 u181 u182 u183 u184 u185 u186 u187 u188 u189 u190 u191 u192 u193 u194 u195 u196 u197 u198 u199 u200 u201 : Value) (K : Act → World → Prop) (Q0 : Exit → Act → World → Prop) (hl : -9223372036854775808 ≤ l0 ∧ l0 ≤ 9223372036854775807) (hp : BP W w b H N) (hN : Nice N 3 0)
    (hK : ∀ (v28 v29 v30 v31 v32 v33 v34 : Value) (N2 : Bch) (H2 : BH) (V : World), BP W V b H2 N2 → Nice N2 3 0 → K ⟨List.toArray (u0 :: (.int .i64 l0) :: u2 :: u3 :: u4 :: u5 :: u6 :: (.pointer (some ⟨b, 0, none⟩)) :: u8 :: u9 :: u10 :: u11 :: u12 :: u13 :: u14 :: u15 :: u16 :: u17 :: u18 :: u19 :: u20 :: u21 :: u22 :: u23 :: u24 :: u25 :: u26 :: u27 :: v28 :: v29 :: v30 :: v31 :: v32 :: v33 :: v34 :: u35 :: u36 :: u37 :: u38 :: u39 :: u40 :: u41 :: u42 :: u43 :: u44 :: u45 :: u46 :: u47 :: u48 :: u49 :: u50 :: u51 :: u52 :: u53 :: u54 :: u55 :: u56 :: u57 :: u58 :: u59 :: u60 :: u61 :: u62 :: u63 :: u64 :: u65 :: u66 :: u67 :: u68 :: u69 :: u70 :: u71 :: u72 :: u73 :: u74 :: u75 :: u76 :: u77 :: u78 :: u79 :: u80 :: u81 :: u82 :: u83 :: u84 :: u85 :: u86 :: u87 :: u88 :: u89 :: u90 :: u91 :: u92 :: u93 :: u94 :: u95 :: u96 :: u97 :: u98 :: u99 :: u100 :: u101 :: u102 :: u103 :: u104 :: u105 :: u106 :: u107 :: u108 :: u109 :: u110 :: u111 :: u112 :: u113 :: u114 :: u115 :: u116 :: u117 :: u118 :: u119 :: u120 :: u121 :: u122 :: u123 :: u124 :: u125 :: u126 :: u127 :: u128 :: u129 :: u130 :: u131 :: u132 :: u133 :: u134 :: u135 :: u136 :: u137 :: u138 :: u139 :: u140 :: u141 :: u142 :: u143 :: u144 :: u145 :: u146 :: u147 :: u148 :: u149 :: u150 :: u151 :: u152 :: u153 :: u154 :: u155 :: u156 :: u157 :: u158 :: u159 :: u160 :: u161 :: u162 :: u163 :: u164 :: u165 :: u166 :: u167 :: u168 :: u169 :: u170 :: u171 :: u172 :: u173 :: u174 :: u175 :: u176 :: u177 :: u178 :: u179 :: u180 :: u181 :: u182 :: u183 :: u184 :: u185 :: u186 :: u187 :: u188 :: u189 :: u190 :: u191 :: u192 :: u193 :: u194 :: u195 :: u196 :: u197 :: u198 :: u199 :: u200 :: u201 :: []), []⟩ V) :
    Code.wp Try.prog (sub [1, 1, 1, 0] codeBL) (Exit.then K Q0) ⟨List.toArray (u0 :: (.int .i64 l0) :: u2 :: u3 :: u4 :: u5 :: u6 :: (.pointer (some ⟨b, 0, none⟩)) :: u8 :: u9 :: u10 :: u11 :: u12 :: u13 :: u14 :: u15 :: u16 :: u17 :: u18 :: u19 :: u20 :: u21 :: u22 :: u23 :: u24 :: u25 :: u26 :: u27 :: u28 :: u29 :: u30 :: u31 :: u32 :: u33 :: u34 :: u35 :: u36 :: u37 :: u38 :: u39 :: u40 :: u41 :: u42 :: u43 :: u44 :: u45 :: u46 :: u47 :: u48 :: u49 :: u50 :: u51 :: u52 :: u53 :: u54 :: u55 :: u56 :: u57 :: u58 :: u59 :: u60 :: u61 :: u62 :: u63 :: u64 :: u65 :: u66 :: u67 :: u68 :: u69 :: u70 :: u71 :: u72 :: u73 :: u74 :: u75 :: u76 :: u77 :: u78 :: u79 :: u80 :: u81 :: u82 :: u83 :: u84 :: u85 :: u86 :: u87 :: u88 :: u89 :: u90 :: u91 :: u92 :: u93 :: u94 :: u95 :: u96 :: u97 :: u98 :: u99 :: u100 :: u101 :: u102 :: u103 :: u104 :: u105 :: u106 :: u107 :: u108 :: u109 :: u110 :: u111 :: u112 :: u113 :: u114 :: u115 :: u116 :: u117 :: u118 :: u119 :: u120 :: u121 :: u122 :: u123 :: u124 :: u125 :: u126 :: u127 :: u128 :: u129 :: u130 :: u131 :: u132 :: u133 :: u134 :: u135 :: u136 :: u137 :: u138 :: u139 :: u140 :: u141 :: u142 :: u143 :: u144 :: u145 :: u146 :: u147 :: u148 :: u149 :: u150 :: u151 :: u152 :: u153 :: u154 :: u155 :: u156 :: u157 :: u158 :: u159 :: u160 :: u161 :: u162 :: u163 :: u164 :: u165 :: u166 :: u167 :: u168 :: u169 :: u170 :: u171 :: u172 :: u173 :: u174 :: u175 :: u176 :: u177 :: u178 :: u179 :: u180 :: u181 :: u182 :: u183 :: u184 :: u185 :: u186 :: u187 :: u188 :: u189 :: u190 :: u191 :: u192 :: u193 :: u194 :: u195 :: u196 :: u197 :: u198 :: u199 :: u200 :: u201 :: []), []⟩ w := by
  have HK := Lib.hid hK
  clear hK
  conv => arg 2; whnf
  have CW := Lib.hid (fun V => within_any l0 20 V hl (by omega))
  have b1 := withinI_bd l0 20 (by omega)
  generalize withinI l0 20 = a at CW b1
  have hw : IntKind.i64.wrap (a - 1) = a - 1 := by rw [IntKind.wrap_i64]; omega
  have CL := Lib.hid (bp_limit _ _ _ _ _ hp.drew (a - 1) ⟨by omega, by omega⟩)
  have Hl := Lib.hid (hN.limit (a - 1))
  clear hp hN
  refine wp_region_noPanic (region_ord 6 [] (fun V => Hid True) (by kernel_rfl) (by kernel_rfl) (fun _ _ _ _ _ h => h) fun R => ?_)
  change anyI _ _ _ _ _ _ 7 _ _ w.drew
  refine anyI_take R 0 rfl (v := (.pointer (some ⟨b, 0, none⟩))) (by kernel_rfl) (by rfl) (fun V hV => by go_simp) (Lib.hid trivial) ?_
  try simp only [Act.put, List.getElem_toArray, List.getElem_cons_succ, List.getElem_cons_zero, List.setIfInBounds_toArray, List.set_cons_zero, List.set_cons_succ]
  refine anyI_take R 1 rfl (v := (.pointer (some ⟨b, 0, none⟩))) (by kernel_rfl) (by rfl) (fun V hV => by go_simp) (Lib.hid trivial) ?_
  try simp only [Act.put, List.getElem_toArray, List.getElem_cons_succ, List.getElem_cons_zero, List.setIfInBounds_toArray, List.set_cons_zero, List.set_cons_succ]
  refine anyI_take R 2 rfl (v := (.pointer (some ⟨b, 0, none⟩))) (by kernel_rfl) (by rfl) (fun V hV => by go_simp) (Lib.hid trivial) ?_
  try simp only [Act.put, List.getElem_toArray, List.getElem_cons_succ, List.getElem_cons_zero, List.setIfInBounds_toArray, List.set_cons_zero, List.set_cons_succ]
  refine anyI_take R 3 rfl (v := (.int .i64 l0)) (by kernel_rfl) (by rfl) (fun V hV => by go_simp) (Lib.hid trivial) ?_
  try simp only [Act.put, List.getElem_toArray, List.getElem_cons_succ, List.getElem_cons_zero, List.setIfInBounds_toArray, List.set_cons_zero, List.set_cons_succ]
  refine anyI_one 4 (by kernel_rfl) rfl ?_
  try simp only [List.getElem_toArray, List.getElem_cons_succ, List.getElem_cons_zero]
  refine opE_step ?_
  rw [if_pos (by rfl)]
  go_simp
  go_at_call 9
  refine (CW.out _).mono ?_
  rintro e w1 ⟨rfl, rfl⟩
  dsimp only
  refine ⟨Lib.hid trivial, ?_⟩
  try simp only [Act.put, List.getElem_toArray, List.getElem_cons_succ, List.getElem_cons_zero, List.setIfInBounds_toArray, List.set_cons_zero, List.set_cons_succ]
  refine anyI_take R 5 rfl (v := (.int .i64 (a - 1))) (by kernel_rfl) (by rfl) (fun V hV => by go_simp) (Lib.hid trivial) ?_
  try simp only [Act.put, List.getElem_toArray, List.getElem_cons_succ, List.getElem_cons_zero, List.setIfInBounds_toArray, List.set_cons_zero, List.set_cons_succ]
  refine anyI_tail (by kernel_rfl) ?_
  try simp only [List.drop_succ_cons, List.drop_zero]
  clear R
  go_wp2_with fail
  refine CL.out.mono ?_
  rintro e w2 ⟨rfl, H2, hp2, _, _⟩
  have Hp2 := Lib.hid hp2
  clear hp2
  go_wp2_with fail
  refine NoPanic.normal ?_
  go_wp2_with fail
  exact HK.out _ _ _ _ _ _ _ _ _ _ Hp2.out Hl.out
set_option maxRecDepth 100000 in
set_option maxHeartbeats 3200000 in
theorem bl8 {W : World} {b nl cp lb off i : Nat} {z : Int} {H : BH} {N : Bch} {w : World} (u1 u2 u3 u4 u5 u6 u8 u10 u11 u12 u13 u14 u15 u16 u17 u18 u19 u20 u21 u22 u23 u24 u25 u26 u27 u28 u29 u30 u31 u32 u33 u34 u35 u36 u37 u38 u39 u40 u41 u42 u43 u44 u45 u46 u47 u48 u49 u50 u51 u52 u53 u54 u55 u56 u57 u58 u59 u60 u61 u62 u63 u64 u65 u66 u67 u68 u69 u70 u71 u72 u73 u74 u75 u76 u77 u78 u79 u80 u81 u82 u83 u84 u85 u86 u87 u88 u89 u90 u91 u92 u93 u94 u95 u96 u97 u98 u99 u100 u101 u102 u103 u104 u105 u106 u107 u108 u109 u110 u111 u112 u113 u114 u115 u116 u117 u118 u119 u120 u121 u122 u123 u124 u125 u126 u127 u128 u129 u130 u131 u132 u133 u134 u135 u136 u137 u138 u139 u140 u141 u142 u143 u144 u145 u146 u147 u148 u149 u150 u151 u152 u153 u154 u155 u156 u157 u158 u159 u160 u161 u162 u163 u164 u165 u166 u167 u168 u169 u170 u171 u172 u173 u174 u175 u176 u177 u178 u179 u180 u181 u182 u183 u184 u185 u186 u187 u188 u189 u190 u191 u192 u193 u194 u195 u196 u197 u198 u199 u200 u201 : Value) (K : Act → World → Prop) (Q0 : Exit → Act → World → Prop) (hi : i < nl) (hi15 : i < 15) (hll : nl ≤ 9223372036854775807) (hlb : lb < W.heap.size) (hcl : W.cell? ⟨lb, off + i, none⟩ = some (.int .i64 z)) (hz : -9223372036854775808 ≤ z ∧ z ≤ 9223372036854775807) (hp : BP W w b H N) (hN : Nice N 3 i)
    (hK : ∀ (v45 v46 v47 v48 v49 v50 v51 v52 v53 v54 v55 v56 v57 v58 v59 v60 : Value) (N2 : Bch) (H2 : BH) (V : World), BP W V b H2 N2 → Nice N2 3 (i + 1) → K ⟨List.toArray ((.slice (some ⟨lb, off, none⟩) nl cp) :: u1 :: u2 :: u3 :: u4 :: u5 :: u6 :: (.pointer (some ⟨b, 0, none⟩)) :: u8 :: (.int .i64 (i : Int)) :: u10 :: u11 :: u12 :: u13 :: u14 :: u15 :: u16 :: u17 :: u18 :: u19 :: u20 :: u21 :: u22 :: u23 :: u24 :: u25 :: u26 :: u27 :: u28 :: u29 :: u30 :: u31 :: u32 :: u33 :: u34 :: u35 :: u36 :: u37 :: u38 :: u39 :: u40 :: u41 :: u42 :: u43 :: u44 :: v45 :: v46 :: v47 :: v48 :: v49 :: v50 :: v51 :: v52 :: v53 :: v54 :: v55 :: v56 :: v57 :: v58 :: v59 :: v60 :: u61 :: u62 :: u63 :: u64 :: u65 :: u66 :: u67 :: u68 :: u69 :: u70 :: u71 :: u72 :: u73 :: u74 :: u75 :: u76 :: u77 :: u78 :: u79 :: u80 :: u81 :: u82 :: u83 :: u84 :: u85 :: u86 :: u87 :: u88 :: u89 :: u90 :: u91 :: u92 :: u93 :: u94 :: u95 :: u96 :: u97 :: u98 :: u99 :: u100 :: u101 :: u102 :: u103 :: u104 :: u105 :: u106 :: u107 :: u108 :: u109 :: u110 :: u111 :: u112 :: u113 :: u114 :: u115 :: u116 :: u117 :: u118 :: u119 :: u120 :: u121 :: u122 :: u123 :: u124 :: u125 :: u126 :: u127 :: u128 :: u129 :: u130 :: u131 :: u132 :: u133 :: u134 :: u135 :: u136 :: u137 :: u138 :: u139 :: u140 :: u141 :: u142 :: u143 :: u144 :: u145 :: u146 :: u147 :: u148 :: u149 :: u150 :: u151 :: u152 :: u153 :: u154 :: u155 :: u156 :: u157 :: u158 :: u159 :: u160 :: u161 :: u162 :: u163 :: u164 :: u165 :: u166 :: u167 :: u168 :: u169 :: u170 :: u171 :: u172 :: u173 :: u174 :: u175 :: u176 :: u177 :: u178 :: u179 :: u180 :: u181 :: u182 :: u183 :: u184 :: u185 :: u186 :: u187 :: u188 :: u189 :: u190 :: u191 :: u192 :: u193 :: u194 :: u195 :: u196 :: u197 :: u198 :: u199 :: u200 :: u201 :: []), []⟩ V) :
    Code.wp Try.prog (sub [1, 1, 1, 1, 0, 1, 0, 0, 1, 0, 0, 0] codeBL) (Exit.then K Q0) ⟨List.toArray ((.slice (some ⟨lb, off, none⟩) nl cp) :: u1 :: u2 :: u3 :: u4 :: u5 :: u6 :: (.pointer (some ⟨b, 0, none⟩)) :: u8 :: (.int .i64 (i : Int)) :: u10 :: u11 :: u12 :: u13 :: u14 :: u15 :: u16 :: u17 :: u18 :: u19 :: u20 :: u21 :: u22 :: u23 :: u24 :: u25 :: u26 :: u27 :: u28 :: u29 :: u30 :: u31 :: u32 :: u33 :: u34 :: u35 :: u36 :: u37 :: u38 :: u39 :: u40 :: u41 :: u42 :: u43 :: u44 :: u45 :: u46 :: u47 :: u48 :: u49 :: u50 :: u51 :: u52 :: u53 :: u54 :: u55 :: u56 :: u57 :: u58 :: u59 :: u60 :: u61 :: u62 :: u63 :: u64 :: u65 :: u66 :: u67 :: u68 :: u69 :: u70 :: u71 :: u72 :: u73 :: u74 :: u75 :: u76 :: u77 :: u78 :: u79 :: u80 :: u81 :: u82 :: u83 :: u84 :: u85 :: u86 :: u87 :: u88 :: u89 :: u90 :: u91 :: u92 :: u93 :: u94 :: u95 :: u96 :: u97 :: u98 :: u99 :: u100 :: u101 :: u102 :: u103 :: u104 :: u105 :: u106 :: u107 :: u108 :: u109 :: u110 :: u111 :: u112 :: u113 :: u114 :: u115 :: u116 :: u117 :: u118 :: u119 :: u120 :: u121 :: u122 :: u123 :: u124 :: u125 :: u126 :: u127 :: u128 :: u129 :: u130 :: u131 :: u132 :: u133 :: u134 :: u135 :: u136 :: u137 :: u138 :: u139 :: u140 :: u141 :: u142 :: u143 :: u144 :: u145 :: u146 :: u147 :: u148 :: u149 :: u150 :: u151 :: u152 :: u153 :: u154 :: u155 :: u156 :: u157 :: u158 :: u159 :: u160 :: u161 :: u162 :: u163 :: u164 :: u165 :: u166 :: u167 :: u168 :: u169 :: u170 :: u171 :: u172 :: u173 :: u174 :: u175 :: u176 :: u177 :: u178 :: u179 :: u180 :: u181 :: u182 :: u183 :: u184 :: u185 :: u186 :: u187 :: u188 :: u189 :: u190 :: u191 :: u192 :: u193 :: u194 :: u195 :: u196 :: u197 :: u198 :: u199 :: u200 :: u201 :: []), []⟩ w := by
  have HK := Lib.hid hK
  clear hK
  conv => arg 2; whnf
  have CW := Lib.hid (fun V => within_any z 3 V hz (by omega))
  have b1 := withinI_bd z 3 (by omega)
  generalize withinI z 3 = a at CW b1
  have hz3 : -9223372036854775808 ≤ z.tdiv 3 ∧ z.tdiv 3 ≤ 9223372036854775807 := by have h3 : (z.tdiv 3).natAbs = z.natAbs / 3 := Int.natAbs_tdiv z 3; omega
  have hw3 : IntKind.i64.wrap (z.tdiv 3) = z.tdiv 3 := by rw [IntKind.wrap_i64]; omega
  have CW2 := Lib.hid (fun V => within_any (z.tdiv 3) 5 V hz3 (by omega))
  have b2 := withinI_bd (z.tdiv 3) 5 (by omega)
  generalize withinI (z.tdiv 3) 5 = a2 at CW2 b2
  have hw : IntKind.i64.wrap ((i : Int) + 1) = (i : Int) + 1 := by rw [IntKind.wrap_i64]; omega
  have i1 : (i : Int) < (nl : Int) := by omega
  have i0 : (0 : Int) ≤ (i : Int) := by omega
  have HN := Lib.hid hN
  have Hp := Lib.hid hp
  have CS := Lib.hid (fun V => sector_any ((i : Int) + 1) V (by omega))
  clear hN
  refine wp_region_noPanic (region_ord 15 [] (fun V => Below W.heap.size W V) (by kernel_rfl) (by kernel_rfl) (fun _ _ _ _ _ h => h) fun R => ?_)
  change anyI _ _ _ _ _ _ 16 _ _ w.drew
  have HS0 := Lib.hid (hp.bel.drew)
  refine anyI_take R 0 rfl (v := (.pointer (some ⟨b, 0, none⟩))) (by kernel_rfl) (by rfl) (fun V hV => by go_simp) HS0.out ?_
  try simp only [Act.put, List.getElem_toArray, List.getElem_cons_succ, List.getElem_cons_zero, List.setIfInBounds_toArray, List.set_cons_zero, List.set_cons_succ]
  refine anyI_take R 1 rfl (v := (.slice (some ⟨lb, off, none⟩) nl cp)) (by kernel_rfl) (by rfl) (fun V hV => by go_simp) HS0.out ?_
  try simp only [Act.put, List.getElem_toArray, List.getElem_cons_succ, List.getElem_cons_zero, List.setIfInBounds_toArray, List.set_cons_zero, List.set_cons_succ]
  refine anyI_take R 2 rfl (v := (.int .i64 (i : Int))) (by kernel_rfl) (by rfl) (fun V hV => by go_simp) HS0.out ?_
  try simp only [Act.put, List.getElem_toArray, List.getElem_cons_succ, List.getElem_cons_zero, List.setIfInBounds_toArray, List.set_cons_zero, List.set_cons_succ]
  refine anyI_take R 3 rfl (v := (.pointer (some ⟨lb, off + i, none⟩))) (by kernel_rfl) (by rfl) (fun V hV => by go_simp) HS0.out ?_
  try simp only [Act.put, List.getElem_toArray, List.getElem_cons_succ, List.getElem_cons_zero, List.setIfInBounds_toArray, List.set_cons_zero, List.set_cons_succ]
  refine anyI_take R 4 rfl (v := (.int .i64 z)) (by kernel_rfl) (by rfl) (fun V hV => by have hc := (Below.cell (p := ⟨lb, off + i, none⟩) hV hlb).trans hcl; go_simp) HS0.out ?_
  try simp only [Act.put, List.getElem_toArray, List.getElem_cons_succ, List.getElem_cons_zero, List.setIfInBounds_toArray, List.set_cons_zero, List.set_cons_succ]
  refine anyI_take R 6 rfl (v := (.slice (some ⟨lb, off, none⟩) nl cp)) (by kernel_rfl) (by rfl) (fun V hV => by go_simp) HS0.out ?_
  try simp only [Act.put, List.getElem_toArray, List.getElem_cons_succ, List.getElem_cons_zero, List.setIfInBounds_toArray, List.set_cons_zero, List.set_cons_succ]
  refine anyI_take R 7 rfl (v := (.int .i64 (i : Int))) (by kernel_rfl) (by rfl) (fun V hV => by go_simp) HS0.out ?_
  try simp only [Act.put, List.getElem_toArray, List.getElem_cons_succ, List.getElem_cons_zero, List.setIfInBounds_toArray, List.set_cons_zero, List.set_cons_succ]
  refine anyI_take R 8 rfl (v := (.pointer (some ⟨lb, off + i, none⟩))) (by kernel_rfl) (by rfl) (fun V hV => by go_simp) HS0.out ?_
  try simp only [Act.put, List.getElem_toArray, List.getElem_cons_succ, List.getElem_cons_zero, List.setIfInBounds_toArray, List.set_cons_zero, List.set_cons_succ]
  refine anyI_take R 9 rfl (v := (.int .i64 z)) (by kernel_rfl) (by rfl) (fun V hV => by have hc := (Below.cell (p := ⟨lb, off + i, none⟩) hV hlb).trans hcl; go_simp) HS0.out ?_
  try simp only [Act.put, List.getElem_toArray, List.getElem_cons_succ, List.getElem_cons_zero, List.setIfInBounds_toArray, List.set_cons_zero, List.set_cons_succ]
  refine anyI_take R 10 rfl (v := (.int .i64 (z.tdiv 3))) (by kernel_rfl) (by rfl) (fun V hV => by go_simp) HS0.out ?_
  try simp only [Act.put, List.getElem_toArray, List.getElem_cons_succ, List.getElem_cons_zero, List.setIfInBounds_toArray, List.set_cons_zero, List.set_cons_succ]
  refine anyI_take R 12 rfl (v := (.int .i64 (i : Int))) (by kernel_rfl) (by rfl) (fun V hV => by go_simp) HS0.out ?_
  try simp only [Act.put, List.getElem_toArray, List.getElem_cons_succ, List.getElem_cons_zero, List.setIfInBounds_toArray, List.set_cons_zero, List.set_cons_succ]
  refine anyI_take R 13 rfl (v := (.int .i64 ((i : Int) + 1))) (by kernel_rfl) (by rfl) (fun V hV => by go_simp) HS0.out ?_
  try simp only [Act.put, List.getElem_toArray, List.getElem_cons_succ, List.getElem_cons_zero, List.setIfInBounds_toArray, List.set_cons_zero, List.set_cons_succ]
  refine anyI_one 5 (by kernel_rfl) rfl ?_
  try simp only [List.getElem_toArray, List.getElem_cons_succ, List.getElem_cons_zero]
  refine opE_step ?_
  rw [if_pos (by rfl)]
  go_simp
  go_at_call 9
  refine (CW.out _).mono ?_
  rintro e w1 ⟨rfl, rfl⟩
  dsimp only
  refine ⟨HS0.out, ?_⟩
  try simp only [Act.put, List.getElem_toArray, List.getElem_cons_succ, List.getElem_cons_zero, List.setIfInBounds_toArray, List.set_cons_zero, List.set_cons_succ]
  refine anyI_one 11 (by kernel_rfl) rfl ?_
  try simp only [List.getElem_toArray, List.getElem_cons_succ, List.getElem_cons_zero]
  refine opE_step ?_
  rw [if_pos (by rfl)]
  go_simp
  go_at_call 9
  refine (CW2.out _).mono ?_
  rintro e w2 ⟨rfl, rfl⟩
  dsimp only
  refine ⟨HS0.out, ?_⟩
  try simp only [Act.put, List.getElem_toArray, List.getElem_cons_succ, List.getElem_cons_zero, List.setIfInBounds_toArray, List.set_cons_zero, List.set_cons_succ]
  refine anyI_one 14 (by kernel_rfl) rfl ?_
  try simp only [List.getElem_toArray, List.getElem_cons_succ, List.getElem_cons_zero]
  refine opE_step ?_
  rw [if_pos (by rfl)]
  go_simp
  go_at_call 11
  refine (CS.out _).mono ?_
  rintro e w3 ⟨g, rfl, ho, hb⟩
  dsimp only
  have Hp3 := Lib.hid (Hp.out.drew.grow hb)
  have Hr3 := Lib.hid ho.rdS.1
  clear ho hb
  refine ⟨Hp3.out.bel, ?_⟩
  try simp only [Act.put, List.getElem_toArray, List.getElem_cons_succ, List.getElem_cons_zero, List.setIfInBounds_toArray, List.set_cons_zero, List.set_cons_succ]
  refine anyI_tail (by kernel_rfl) ?_
  try simp only [List.drop_succ_cons, List.drop_zero]
  clear R
  go_wp2_with fail
  refine (bp_write _ _ _ _ _ Hp3.out a a2 (sectorB ((i : Int) + 1)) (some ⟨g, 0, none⟩) 32 32 (sectorB_len _).symm ⟨by omega, by omega⟩ ⟨by omega, by omega⟩ Hr3.out (HN.out.psb (by omega)) (by have := HN.out.done; omega)).mono ?_
  rintro e w4 ⟨rfl, H4, hp4, _, _⟩
  have Hp4 := Lib.hid hp4
  have HN4 := Lib.hid (HN.out.write a a2 (sectorB ((i : Int) + 1)))
  clear hp4
  generalize N.write a a2 (sectorB ((i : Int) + 1)) = N4 at Hp4 HN4
  go_wp2_with fail
  refine NoPanic.normal ?_
  go_wp2_with fail
  exact HK.out _ _ _ _ _ _ _ _ _ _ _ _ _ _ _ _ _ _ _ Hp4.out HN4.out
set_option maxRecDepth 100000 in
set_option maxHeartbeats 3200000 in
theorem bl12 {W : World} {b b2 m : Nat} {H H2 : BH} {N : Bch} {w : World} (u0 u1 u2 u3 u4 u5 u6 u8 u9 u11 u12 u13 u14 u15 u16 u17 u18 u19 u20 u21 u22 u23 u24 u25 u26 u27 u28 u29 u30 u31 u32 u33 u34 u35 u36 u37 u38 u39 u40 u41 u42 u43 u44 u45 u46 u47 u48 u49 u50 u51 u52 u53 u54 u55 u56 u57 u58 u59 u60 u61 u62 u63 u64 u65 u66 u67 u68 u69 u70 u71 u72 u73 u74 u75 u76 u77 u78 u79 u80 u81 u82 u83 u84 u85 u86 u87 u88 u89 u90 u91 u92 u93 u94 u95 u96 u97 u98 u99 u100 u101 u102 u103 u104 u105 u106 u107 u108 u109 u110 u111 u112 u113 u114 u115 u116 u117 u118 u119 u120 u121 u122 u123 u124 u125 u126 u127 u128 u129 u130 u131 u132 u133 u134 u135 u136 u137 u138 u139 u140 u141 u142 u143 u144 u145 u146 u147 u148 u149 u150 u151 u152 u153 u154 u155 u156 u157 u158 u159 u160 u161 u162 u163 u164 u165 u166 u167 u168 u169 u170 u171 u172 u173 u174 u175 u176 u177 u178 u179 u180 u181 u182 u183 u184 u185 u186 u187 u188 u189 u190 u191 u192 u193 u194 u195 u196 u197 u198 u199 u200 u201 : Value) (K : Act → World → Prop) (Q0 : Exit → Act → World → Prop) (hp : P2 W w b H N b2 H2 N) (hN : Nice N 3 m) (hm : m ≤ 1000)
    (hK : ∀ (v76 v77 v78 v79 v80 v81 v82 v83 v84 v85 v86 v87 v88 v89 v90 v91 v92 v93 v94 v95 v96 v97 v98 v99 v100 v101 v102 v103 v104 v105 v106 v107 v108 v109 v110 : Value) (V : World), P2 W V b H N b2 H2 N → K ⟨List.toArray (u0 :: u1 :: u2 :: u3 :: u4 :: u5 :: u6 :: (.pointer (some ⟨b, 0, none⟩)) :: u8 :: u9 :: (.pointer (some ⟨b2, 0, none⟩)) :: u11 :: u12 :: u13 :: u14 :: u15 :: u16 :: u17 :: u18 :: u19 :: u20 :: u21 :: u22 :: u23 :: u24 :: u25 :: u26 :: u27 :: u28 :: u29 :: u30 :: u31 :: u32 :: u33 :: u34 :: u35 :: u36 :: u37 :: u38 :: u39 :: u40 :: u41 :: u42 :: u43 :: u44 :: u45 :: u46 :: u47 :: u48 :: u49 :: u50 :: u51 :: u52 :: u53 :: u54 :: u55 :: u56 :: u57 :: u58 :: u59 :: u60 :: u61 :: u62 :: u63 :: u64 :: u65 :: u66 :: u67 :: u68 :: u69 :: u70 :: u71 :: u72 :: u73 :: u74 :: u75 :: v76 :: v77 :: v78 :: v79 :: v80 :: v81 :: v82 :: v83 :: v84 :: v85 :: v86 :: v87 :: v88 :: v89 :: v90 :: v91 :: v92 :: v93 :: v94 :: v95 :: v96 :: v97 :: v98 :: v99 :: v100 :: v101 :: v102 :: v103 :: v104 :: v105 :: v106 :: v107 :: v108 :: v109 :: v110 :: (.bool false) :: u112 :: u113 :: u114 :: u115 :: u116 :: u117 :: u118 :: u119 :: u120 :: u121 :: u122 :: u123 :: u124 :: u125 :: u126 :: u127 :: u128 :: u129 :: u130 :: u131 :: u132 :: u133 :: u134 :: u135 :: u136 :: u137 :: u138 :: u139 :: u140 :: u141 :: u142 :: u143 :: u144 :: u145 :: u146 :: u147 :: u148 :: u149 :: u150 :: u151 :: u152 :: u153 :: u154 :: u155 :: u156 :: u157 :: u158 :: u159 :: u160 :: u161 :: u162 :: u163 :: u164 :: u165 :: u166 :: u167 :: u168 :: u169 :: u170 :: u171 :: u172 :: u173 :: u174 :: u175 :: u176 :: u177 :: u178 :: u179 :: u180 :: u181 :: u182 :: u183 :: u184 :: u185 :: u186 :: u187 :: u188 :: u189 :: u190 :: u191 :: u192 :: u193 :: u194 :: u195 :: u196 :: u197 :: u198 :: u199 :: u200 :: u201 :: []), []⟩ V) :
    Code.wp Try.prog (sub [1, 1, 1, 1, 1, 1, 0, 0] codeBL) (Exit.then K Q0) ⟨List.toArray (u0 :: u1 :: u2 :: u3 :: u4 :: u5 :: u6 :: (.pointer (some ⟨b, 0, none⟩)) :: u8 :: u9 :: (.pointer (some ⟨b2, 0, none⟩)) :: u11 :: u12 :: u13 :: u14 :: u15 :: u16 :: u17 :: u18 :: u19 :: u20 :: u21 :: u22 :: u23 :: u24 :: u25 :: u26 :: u27 :: u28 :: u29 :: u30 :: u31 :: u32 :: u33 :: u34 :: u35 :: u36 :: u37 :: u38 :: u39 :: u40 :: u41 :: u42 :: u43 :: u44 :: u45 :: u46 :: u47 :: u48 :: u49 :: u50 :: u51 :: u52 :: u53 :: u54 :: u55 :: u56 :: u57 :: u58 :: u59 :: u60 :: u61 :: u62 :: u63 :: u64 :: u65 :: u66 :: u67 :: u68 :: u69 :: u70 :: u71 :: u72 :: u73 :: u74 :: u75 :: u76 :: u77 :: u78 :: u79 :: u80 :: u81 :: u82 :: u83 :: u84 :: u85 :: u86 :: u87 :: u88 :: u89 :: u90 :: u91 :: u92 :: u93 :: u94 :: u95 :: u96 :: u97 :: u98 :: u99 :: u100 :: u101 :: u102 :: u103 :: u104 :: u105 :: u106 :: u107 :: u108 :: u109 :: u110 :: u111 :: u112 :: u113 :: u114 :: u115 :: u116 :: u117 :: u118 :: u119 :: u120 :: u121 :: u122 :: u123 :: u124 :: u125 :: u126 :: u127 :: u128 :: u129 :: u130 :: u131 :: u132 :: u133 :: u134 :: u135 :: u136 :: u137 :: u138 :: u139 :: u140 :: u141 :: u142 :: u143 :: u144 :: u145 :: u146 :: u147 :: u148 :: u149 :: u150 :: u151 :: u152 :: u153 :: u154 :: u155 :: u156 :: u157 :: u158 :: u159 :: u160 :: u161 :: u162 :: u163 :: u164 :: u165 :: u166 :: u167 :: u168 :: u169 :: u170 :: u171 :: u172 :: u173 :: u174 :: u175 :: u176 :: u177 :: u178 :: u179 :: u180 :: u181 :: u182 :: u183 :: u184 :: u185 :: u186 :: u187 :: u188 :: u189 :: u190 :: u191 :: u192 :: u193 :: u194 :: u195 :: u196 :: u197 :: u198 :: u199 :: u200 :: u201 :: []), []⟩ w := by
  have HK := Lib.hid hK
  clear hK
  conv => arg 2; whnf
  have Hp := Lib.hid (hp.grow (Below.refl w.heap.size w).drew)
  have hpe := ptr_eq
  have C1 := Lib.hid (bp_down _ _ _ _ _ Hp.out.p2)
  have C2 := Lib.hid (bp_down _ _ _ _ _ Hp.out.p1)
  have C3 := Lib.hid (bp_pending_eq _ _ _ _ _ Hp.out.p2 (hN.psb (by omega)))
  have C4 := Lib.hid (bp_pending_eq _ _ _ _ _ Hp.out.p1 (hN.psb (by omega)))
  have C5 := Lib.hid (bp_writes _ _ _ _ _ Hp.out.p2)
  have C6 := Lib.hid (bp_writes _ _ _ _ _ Hp.out.p1)
  have C7 := Lib.hid (show Calls _ _ _ _ (fun e w' => e = .returned (.int .i64 3) ∧ w' = w.drew) by have := bp_len _ _ _ _ _ Hp.out.p2; rw [hN.n] at this; exact this)
  clear hp hN
  refine wp_region_noPanic (region_ord 36 [] (fun V => Hid True) (by kernel_rfl) (by kernel_rfl) (fun _ _ _ _ _ h => h) fun R => ?_)
  change anyI _ _ _ _ _ _ 36 _ _ w.drew
  refine anyI_take R 0 rfl (v := (.pointer (some ⟨b2, 0, none⟩))) (by kernel_rfl) (by rfl) (fun V hV => by go_simp) (Lib.hid trivial) ?_
  try simp only [Act.put, List.getElem_toArray, List.getElem_cons_succ, List.getElem_cons_zero, List.setIfInBounds_toArray, List.set_cons_zero, List.set_cons_succ]
  refine anyI_take R 1 rfl (v := (.bool false)) (by kernel_rfl) (by rfl) (fun V hV => by go_simp) (Lib.hid trivial) ?_
  try simp only [Act.put, List.getElem_toArray, List.getElem_cons_succ, List.getElem_cons_zero, List.setIfInBounds_toArray, List.set_cons_zero, List.set_cons_succ]
  refine anyI_take R 2 rfl (v := (.bool false)) (by kernel_rfl) (by rfl) (fun V hV => by go_simp) (Lib.hid trivial) ?_
  try simp only [Act.put, List.getElem_toArray, List.getElem_cons_succ, List.getElem_cons_zero, List.setIfInBounds_toArray, List.set_cons_zero, List.set_cons_succ]
  refine anyI_take R 3 rfl (v := (.pointer (some ⟨b2, 0, none⟩))) (by kernel_rfl) (by rfl) (fun V hV => by go_simp) (Lib.hid trivial) ?_
  try simp only [Act.put, List.getElem_toArray, List.getElem_cons_succ, List.getElem_cons_zero, List.setIfInBounds_toArray, List.set_cons_zero, List.set_cons_succ]
  refine anyI_take R 4 rfl (v := (.pointer (some ⟨b2, 0, none⟩))) (by kernel_rfl) (by rfl) (fun V hV => by go_simp) (Lib.hid trivial) ?_
  try simp only [Act.put, List.getElem_toArray, List.getElem_cons_succ, List.getElem_cons_zero, List.setIfInBounds_toArray, List.set_cons_zero, List.set_cons_succ]
  refine anyI_take R 5 rfl (v := (.pointer (some ⟨b2, 0, none⟩))) (by kernel_rfl) (by rfl) (fun V hV => by go_simp) (Lib.hid trivial) ?_
  try simp only [Act.put, List.getElem_toArray, List.getElem_cons_succ, List.getElem_cons_zero, List.setIfInBounds_toArray, List.set_cons_zero, List.set_cons_succ]
  refine anyI_take R 7 rfl (v := (.pointer (some ⟨b, 0, none⟩))) (by kernel_rfl) (by rfl) (fun V hV => by go_simp) (Lib.hid trivial) ?_
  try simp only [Act.put, List.getElem_toArray, List.getElem_cons_succ, List.getElem_cons_zero, List.setIfInBounds_toArray, List.set_cons_zero, List.set_cons_succ]
  refine anyI_take R 8 rfl (v := (.pointer (some ⟨b, 0, none⟩))) (by kernel_rfl) (by rfl) (fun V hV => by go_simp) (Lib.hid trivial) ?_
  try simp only [Act.put, List.getElem_toArray, List.getElem_cons_succ, List.getElem_cons_zero, List.setIfInBounds_toArray, List.set_cons_zero, List.set_cons_succ]
  refine anyI_take R 9 rfl (v := (.pointer (some ⟨b, 0, none⟩))) (by kernel_rfl) (by rfl) (fun V hV => by go_simp) (Lib.hid trivial) ?_
  try simp only [Act.put, List.getElem_toArray, List.getElem_cons_succ, List.getElem_cons_zero, List.setIfInBounds_toArray, List.set_cons_zero, List.set_cons_succ]
  refine anyI_one 6 (by kernel_rfl) rfl ?_
  try simp only [List.getElem_toArray, List.getElem_cons_succ, List.getElem_cons_zero]
  refine opE_step ?_
  rw [if_pos (by rfl)]
  go_simp
  go_at_call 34
  refine (C1.out).mono ?_
  rintro e w1 ⟨rfl, rfl⟩
  dsimp only
  refine ⟨Lib.hid trivial, ?_⟩
  try simp only [Act.put, List.getElem_toArray, List.getElem_cons_succ, List.getElem_cons_zero, List.setIfInBounds_toArray, List.set_cons_zero, List.set_cons_succ]
  refine anyI_one 10 (by kernel_rfl) rfl ?_
  try simp only [List.getElem_toArray, List.getElem_cons_succ, List.getElem_cons_zero]
  refine opE_step ?_
  rw [if_pos (by rfl)]
  go_simp
  go_at_call 34
  refine (C2.out).mono ?_
  rintro e w1 ⟨rfl, rfl⟩
  dsimp only
  refine ⟨Lib.hid trivial, ?_⟩
  try simp only [Act.put, List.getElem_toArray, List.getElem_cons_succ, List.getElem_cons_zero, List.setIfInBounds_toArray, List.set_cons_zero, List.set_cons_succ]
  refine anyI_take R 11 rfl (v := (.bool false)) (by kernel_rfl) (by rfl) (fun V hV => by go_simp) (Lib.hid trivial) ?_
  try simp only [Act.put, List.getElem_toArray, List.getElem_cons_succ, List.getElem_cons_zero, List.setIfInBounds_toArray, List.set_cons_zero, List.set_cons_succ]
  refine anyI_take R 12 rfl (v := (.bool false)) (by kernel_rfl) (by rfl) (fun V hV => by go_simp) (Lib.hid trivial) ?_
  try simp only [Act.put, List.getElem_toArray, List.getElem_cons_succ, List.getElem_cons_zero, List.setIfInBounds_toArray, List.set_cons_zero, List.set_cons_succ]
  refine anyI_take R 13 rfl (v := (.bool false)) (by kernel_rfl) (by rfl) (fun V hV => by go_simp) (Lib.hid trivial) ?_
  try simp only [Act.put, List.getElem_toArray, List.getElem_cons_succ, List.getElem_cons_zero, List.setIfInBounds_toArray, List.set_cons_zero, List.set_cons_succ]
  refine anyI_take R 14 rfl (v := (.pointer (some ⟨b2, 0, none⟩))) (by kernel_rfl) (by rfl) (fun V hV => by go_simp) (Lib.hid trivial) ?_
  try simp only [Act.put, List.getElem_toArray, List.getElem_cons_succ, List.getElem_cons_zero, List.setIfInBounds_toArray, List.set_cons_zero, List.set_cons_succ]
  refine anyI_take R 16 rfl (v := (.pointer (some ⟨b, 0, none⟩))) (by kernel_rfl) (by rfl) (fun V hV => by go_simp) (Lib.hid trivial) ?_
  try simp only [Act.put, List.getElem_toArray, List.getElem_cons_succ, List.getElem_cons_zero, List.setIfInBounds_toArray, List.set_cons_zero, List.set_cons_succ]
  refine anyI_one 15 (by kernel_rfl) rfl ?_
  try simp only [List.getElem_toArray, List.getElem_cons_succ, List.getElem_cons_zero]
  refine opE_step ?_
  rw [if_pos (by rfl)]
  go_simp
  go_at_call 16
  refine (C3.out).mono ?_
  rintro e w1 ⟨rfl, rfl⟩
  dsimp only
  refine ⟨Lib.hid trivial, ?_⟩
  try simp only [Act.put, List.getElem_toArray, List.getElem_cons_succ, List.getElem_cons_zero, List.setIfInBounds_toArray, List.set_cons_zero, List.set_cons_succ]
  refine anyI_one 17 (by kernel_rfl) rfl ?_
  try simp only [List.getElem_toArray, List.getElem_cons_succ, List.getElem_cons_zero]
  refine opE_step ?_
  rw [if_pos (by rfl)]
  go_simp
  go_at_call 16
  refine (C4.out).mono ?_
  rintro e w1 ⟨rfl, rfl⟩
  dsimp only
  refine ⟨Lib.hid trivial, ?_⟩
  try simp only [Act.put, List.getElem_toArray, List.getElem_cons_succ, List.getElem_cons_zero, List.setIfInBounds_toArray, List.set_cons_zero, List.set_cons_succ]
  refine anyI_take R 18 rfl (v := (.bool false)) (by kernel_rfl) (by rfl) (fun V hV => by go_simp) (Lib.hid trivial) ?_
  try simp only [Act.put, List.getElem_toArray, List.getElem_cons_succ, List.getElem_cons_zero, List.setIfInBounds_toArray, List.set_cons_zero, List.set_cons_succ]
  refine anyI_take R 19 rfl (v := (.bool false)) (by kernel_rfl) (by rfl) (fun V hV => by go_simp) (Lib.hid trivial) ?_
  try simp only [Act.put, List.getElem_toArray, List.getElem_cons_succ, List.getElem_cons_zero, List.setIfInBounds_toArray, List.set_cons_zero, List.set_cons_succ]
  refine anyI_take R 20 rfl (v := (.bool false)) (by kernel_rfl) (by rfl) (fun V hV => by go_simp) (Lib.hid trivial) ?_
  try simp only [Act.put, List.getElem_toArray, List.getElem_cons_succ, List.getElem_cons_zero, List.setIfInBounds_toArray, List.set_cons_zero, List.set_cons_succ]
  refine anyI_take R 21 rfl (v := (.pointer (some ⟨b2, 0, none⟩))) (by kernel_rfl) (by rfl) (fun V hV => by go_simp) (Lib.hid trivial) ?_
  try simp only [Act.put, List.getElem_toArray, List.getElem_cons_succ, List.getElem_cons_zero, List.setIfInBounds_toArray, List.set_cons_zero, List.set_cons_succ]
  refine anyI_take R 22 rfl (v := (.pointer (some ⟨b2, 0, none⟩))) (by kernel_rfl) (by rfl) (fun V hV => by go_simp) (Lib.hid trivial) ?_
  try simp only [Act.put, List.getElem_toArray, List.getElem_cons_succ, List.getElem_cons_zero, List.setIfInBounds_toArray, List.set_cons_zero, List.set_cons_succ]
  refine anyI_take R 23 rfl (v := (.pointer (some ⟨b2, 0, none⟩))) (by kernel_rfl) (by rfl) (fun V hV => by go_simp) (Lib.hid trivial) ?_
  try simp only [Act.put, List.getElem_toArray, List.getElem_cons_succ, List.getElem_cons_zero, List.setIfInBounds_toArray, List.set_cons_zero, List.set_cons_succ]
  refine anyI_take R 25 rfl (v := (.pointer (some ⟨b, 0, none⟩))) (by kernel_rfl) (by rfl) (fun V hV => by go_simp) (Lib.hid trivial) ?_
  try simp only [Act.put, List.getElem_toArray, List.getElem_cons_succ, List.getElem_cons_zero, List.setIfInBounds_toArray, List.set_cons_zero, List.set_cons_succ]
  refine anyI_take R 26 rfl (v := (.pointer (some ⟨b, 0, none⟩))) (by kernel_rfl) (by rfl) (fun V hV => by go_simp) (Lib.hid trivial) ?_
  try simp only [Act.put, List.getElem_toArray, List.getElem_cons_succ, List.getElem_cons_zero, List.setIfInBounds_toArray, List.set_cons_zero, List.set_cons_succ]
  refine anyI_take R 27 rfl (v := (.pointer (some ⟨b, 0, none⟩))) (by kernel_rfl) (by rfl) (fun V hV => by go_simp) (Lib.hid trivial) ?_
  try simp only [Act.put, List.getElem_toArray, List.getElem_cons_succ, List.getElem_cons_zero, List.setIfInBounds_toArray, List.set_cons_zero, List.set_cons_succ]
  refine anyI_one 24 (by kernel_rfl) rfl ?_
  try simp only [List.getElem_toArray, List.getElem_cons_succ, List.getElem_cons_zero]
  refine opE_step ?_
  rw [if_pos (by rfl)]
  go_simp
  go_at_call 15
  refine (C5.out).mono ?_
  rintro e w1 ⟨rfl, rfl⟩
  dsimp only
  refine ⟨Lib.hid trivial, ?_⟩
  try simp only [Act.put, List.getElem_toArray, List.getElem_cons_succ, List.getElem_cons_zero, List.setIfInBounds_toArray, List.set_cons_zero, List.set_cons_succ]
  refine anyI_one 28 (by kernel_rfl) rfl ?_
  try simp only [List.getElem_toArray, List.getElem_cons_succ, List.getElem_cons_zero]
  refine opE_step ?_
  rw [if_pos (by rfl)]
  go_simp
  go_at_call 15
  refine (C6.out).mono ?_
  rintro e w1 ⟨rfl, rfl⟩
  dsimp only
  refine ⟨Lib.hid trivial, ?_⟩
  try simp only [Act.put, List.getElem_toArray, List.getElem_cons_succ, List.getElem_cons_zero, List.setIfInBounds_toArray, List.set_cons_zero, List.set_cons_succ]
  refine anyI_take R 29 rfl (v := (.bool false)) (by kernel_rfl) (by rfl) (fun V hV => by go_simp) (Lib.hid trivial) ?_
  try simp only [Act.put, List.getElem_toArray, List.getElem_cons_succ, List.getElem_cons_zero, List.setIfInBounds_toArray, List.set_cons_zero, List.set_cons_succ]
  refine anyI_take R 30 rfl (v := (.bool false)) (by kernel_rfl) (by rfl) (fun V hV => by go_simp) (Lib.hid trivial) ?_
  try simp only [Act.put, List.getElem_toArray, List.getElem_cons_succ, List.getElem_cons_zero, List.setIfInBounds_toArray, List.set_cons_zero, List.set_cons_succ]
  refine anyI_take R 31 rfl (v := (.bool false)) (by kernel_rfl) (by rfl) (fun V hV => by go_simp) (Lib.hid trivial) ?_
  try simp only [Act.put, List.getElem_toArray, List.getElem_cons_succ, List.getElem_cons_zero, List.setIfInBounds_toArray, List.set_cons_zero, List.set_cons_succ]
  refine anyI_take R 32 rfl (v := (.pointer (some ⟨b2, 0, none⟩))) (by kernel_rfl) (by rfl) (fun V hV => by go_simp) (Lib.hid trivial) ?_
  try simp only [Act.put, List.getElem_toArray, List.getElem_cons_succ, List.getElem_cons_zero, List.setIfInBounds_toArray, List.set_cons_zero, List.set_cons_succ]
  refine anyI_one 33 (by kernel_rfl) rfl ?_
  try simp only [List.getElem_toArray, List.getElem_cons_succ, List.getElem_cons_zero]
  refine opE_step ?_
  rw [if_pos (by rfl)]
  go_simp
  go_at_call 21
  refine (C7.out).mono ?_
  rintro e w1 ⟨rfl, rfl⟩
  dsimp only
  refine ⟨Lib.hid trivial, ?_⟩
  try simp only [Act.put, List.getElem_toArray, List.getElem_cons_succ, List.getElem_cons_zero, List.setIfInBounds_toArray, List.set_cons_zero, List.set_cons_succ]
  refine anyI_take R 34 rfl (v := (.bool false)) (by kernel_rfl) (by rfl) (fun V hV => by go_simp) (Lib.hid trivial) ?_
  try simp only [Act.put, List.getElem_toArray, List.getElem_cons_succ, List.getElem_cons_zero, List.setIfInBounds_toArray, List.set_cons_zero, List.set_cons_succ]
  refine anyI_take R 35 rfl (v := (.bool false)) (by kernel_rfl) (by rfl) (fun V hV => by go_simp) (Lib.hid trivial) ?_
  try simp only [Act.put, List.getElem_toArray, List.getElem_cons_succ, List.getElem_cons_zero, List.setIfInBounds_toArray, List.set_cons_zero, List.set_cons_succ]
  refine anyI_tail (by kernel_rfl) ?_
  try simp only [List.drop_succ_cons, List.drop_zero]
  clear R
  go_wp2_with fail
  refine NoPanic.normal ?_
  go_wp2_with fail
  exact HK.out _ _ _ _ _ _ _ _ _ _ _ _ _ _ _ _ _ _ _ _ _ _ _ _ _ _ _ _ _ _ _ _ _ _ _ _ Hp.out
set_option maxRecDepth 100000 in
set_option maxHeartbeats 3200000 in
theorem bl17 {W : World} {b b2 m i : Nat} {H H2 : BH} {N : Bch} {w : World} (u0 u1 u2 u3 u4 u5 u6 u8 u9 u12 u13 u14 u15 u16 u17 u18 u19 u20 u21 u22 u23 u24 u25 u26 u27 u28 u29 u30 u31 u32 u33 u34 u35 u36 u37 u38 u39 u40 u41 u42 u43 u44 u45 u46 u47 u48 u49 u50 u51 u52 u53 u54 u55 u56 u57 u58 u59 u60 u61 u62 u63 u64 u65 u66 u67 u68 u69 u70 u71 u72 u73 u74 u75 u76 u77 u78 u79 u80 u81 u82 u83 u84 u85 u86 u87 u88 u89 u90 u91 u92 u93 u94 u95 u96 u97 u98 u99 u100 u101 u102 u103 u104 u105 u106 u107 u108 u109 u110 u111 u112 u113 u114 u115 u116 u117 u118 u119 u120 u121 u122 u123 u124 u125 u126 u127 u128 u129 u130 u131 u132 u133 u134 u135 u136 u137 u138 u139 u140 u141 u142 u143 u144 u145 u146 u147 u148 u149 u150 u151 u152 u153 u154 u155 u156 u157 u158 u159 u160 u161 u162 u163 u164 u165 u166 u167 u168 u169 u170 u171 u172 u173 u174 u175 u176 u177 u178 u179 u180 u181 u182 u183 u184 u185 u186 u187 u188 u189 u190 u191 u192 u193 u194 u195 u196 u197 u198 u199 u200 u201 : Value) (K : Act → World → Prop) (Q0 : Exit → Act → World → Prop) (hp : P2 W w b H N b2 H2 N) (hN : Nice N 3 m) (hm : m ≤ 1000) (hi : i < 6)
    (hK : ∀ (v116 v117 v118 v119 v120 v121 v122 v123 v124 v125 v126 v127 v128 v129 v130 v131 v132 v133 v134 v135 v136 v137 v138 v139 v140 v141 v142 : Value) (N2 : Bch) (H3 H4 : BH) (V : World), P2 W V b H3 N2 b2 H4 N2 → Nice N2 3 (m + 1) → K ⟨List.toArray (u0 :: u1 :: u2 :: u3 :: u4 :: u5 :: u6 :: (.pointer (some ⟨b, 0, none⟩)) :: u8 :: u9 :: (.pointer (some ⟨b2, 0, none⟩)) :: (.int .i64 (i : Int)) :: u12 :: u13 :: u14 :: u15 :: u16 :: u17 :: u18 :: u19 :: u20 :: u21 :: u22 :: u23 :: u24 :: u25 :: u26 :: u27 :: u28 :: u29 :: u30 :: u31 :: u32 :: u33 :: u34 :: u35 :: u36 :: u37 :: u38 :: u39 :: u40 :: u41 :: u42 :: u43 :: u44 :: u45 :: u46 :: u47 :: u48 :: u49 :: u50 :: u51 :: u52 :: u53 :: u54 :: u55 :: u56 :: u57 :: u58 :: u59 :: u60 :: u61 :: u62 :: u63 :: u64 :: u65 :: u66 :: u67 :: u68 :: u69 :: u70 :: u71 :: u72 :: u73 :: u74 :: u75 :: u76 :: u77 :: u78 :: u79 :: u80 :: u81 :: u82 :: u83 :: u84 :: u85 :: u86 :: u87 :: u88 :: u89 :: u90 :: u91 :: u92 :: u93 :: u94 :: u95 :: u96 :: u97 :: u98 :: u99 :: u100 :: u101 :: u102 :: u103 :: u104 :: u105 :: u106 :: u107 :: u108 :: u109 :: u110 :: u111 :: u112 :: u113 :: u114 :: u115 :: v116 :: v117 :: v118 :: v119 :: v120 :: v121 :: v122 :: v123 :: v124 :: v125 :: v126 :: v127 :: v128 :: v129 :: v130 :: v131 :: v132 :: v133 :: v134 :: v135 :: v136 :: v137 :: v138 :: v139 :: v140 :: v141 :: v142 :: (.bool false) :: u144 :: u145 :: u146 :: u147 :: u148 :: u149 :: u150 :: u151 :: u152 :: u153 :: u154 :: u155 :: u156 :: u157 :: u158 :: u159 :: u160 :: u161 :: u162 :: u163 :: u164 :: u165 :: u166 :: u167 :: u168 :: u169 :: u170 :: u171 :: u172 :: u173 :: u174 :: u175 :: u176 :: u177 :: u178 :: u179 :: u180 :: u181 :: u182 :: u183 :: u184 :: u185 :: u186 :: u187 :: u188 :: u189 :: u190 :: u191 :: u192 :: u193 :: u194 :: u195 :: u196 :: u197 :: u198 :: u199 :: u200 :: u201 :: []), []⟩ V) :
    Code.wp Try.prog (sub [1, 1, 1, 1, 1, 1, 1, 0, 1, 0, 0, 1, 0, 0, 0] codeBL) (Exit.then K Q0) ⟨List.toArray (u0 :: u1 :: u2 :: u3 :: u4 :: u5 :: u6 :: (.pointer (some ⟨b, 0, none⟩)) :: u8 :: u9 :: (.pointer (some ⟨b2, 0, none⟩)) :: (.int .i64 (i : Int)) :: u12 :: u13 :: u14 :: u15 :: u16 :: u17 :: u18 :: u19 :: u20 :: u21 :: u22 :: u23 :: u24 :: u25 :: u26 :: u27 :: u28 :: u29 :: u30 :: u31 :: u32 :: u33 :: u34 :: u35 :: u36 :: u37 :: u38 :: u39 :: u40 :: u41 :: u42 :: u43 :: u44 :: u45 :: u46 :: u47 :: u48 :: u49 :: u50 :: u51 :: u52 :: u53 :: u54 :: u55 :: u56 :: u57 :: u58 :: u59 :: u60 :: u61 :: u62 :: u63 :: u64 :: u65 :: u66 :: u67 :: u68 :: u69 :: u70 :: u71 :: u72 :: u73 :: u74 :: u75 :: u76 :: u77 :: u78 :: u79 :: u80 :: u81 :: u82 :: u83 :: u84 :: u85 :: u86 :: u87 :: u88 :: u89 :: u90 :: u91 :: u92 :: u93 :: u94 :: u95 :: u96 :: u97 :: u98 :: u99 :: u100 :: u101 :: u102 :: u103 :: u104 :: u105 :: u106 :: u107 :: u108 :: u109 :: u110 :: u111 :: u112 :: u113 :: u114 :: u115 :: u116 :: u117 :: u118 :: u119 :: u120 :: u121 :: u122 :: u123 :: u124 :: u125 :: u126 :: u127 :: u128 :: u129 :: u130 :: u131 :: u132 :: u133 :: u134 :: u135 :: u136 :: u137 :: u138 :: u139 :: u140 :: u141 :: u142 :: u143 :: u144 :: u145 :: u146 :: u147 :: u148 :: u149 :: u150 :: u151 :: u152 :: u153 :: u154 :: u155 :: u156 :: u157 :: u158 :: u159 :: u160 :: u161 :: u162 :: u163 :: u164 :: u165 :: u166 :: u167 :: u168 :: u169 :: u170 :: u171 :: u172 :: u173 :: u174 :: u175 :: u176 :: u177 :: u178 :: u179 :: u180 :: u181 :: u182 :: u183 :: u184 :: u185 :: u186 :: u187 :: u188 :: u189 :: u190 :: u191 :: u192 :: u193 :: u194 :: u195 :: u196 :: u197 :: u198 :: u199 :: u200 :: u201 :: []), []⟩ w := by
  have HK := Lib.hid hK
  clear hK
  conv => arg 2; whnf
  have Hp := Lib.hid (hp.grow (Below.refl w.heap.size w).drew)
  have HN := Lib.hid hN
  have hw : IntKind.i64.wrap ((i : Int) + 90) = (i : Int) + 90 := by rw [IntKind.wrap_i64]; omega
  have CS := Lib.hid (fun V => sector_any ((i : Int) + 90) V (by omega))
  have hx := Lib.hid (sectorB_len ((i : Int) + 90))
  have HN2 := Lib.hid (hN.write ((i : Int) % 3) (i : Int) (sectorB ((i : Int) + 90)))
  have i0 : (0 : Int) ≤ (i : Int) := by omega
  have hm3 : (i : Int).tmod 3 = (i : Int) % 3 := Int.tmod_eq_emod_of_nonneg i0
  have hw3 : IntKind.i64.wrap ((i : Int) % 3) = (i : Int) % 3 := by rw [IntKind.wrap_i64]; omega
  clear hp hN
  refine wp_region_noPanic (region_ord 28 [] (fun V => Hid True) (by kernel_rfl) (by kernel_rfl) (fun _ _ _ _ _ h => h) fun R => ?_)
  change anyI _ _ _ _ _ _ 28 _ _ w.drew
  refine anyI_take R 0 rfl (v := (.pointer (some ⟨b2, 0, none⟩))) (by kernel_rfl) (by rfl) (fun V hV => by go_simp) (Lib.hid trivial) ?_
  try simp only [Act.put, List.getElem_toArray, List.getElem_cons_succ, List.getElem_cons_zero, List.setIfInBounds_toArray, List.set_cons_zero, List.set_cons_succ]
  refine anyI_take R 1 rfl (v := (.int .i64 (i : Int))) (by kernel_rfl) (by rfl) (fun V hV => by go_simp) (Lib.hid trivial) ?_
  try simp only [Act.put, List.getElem_toArray, List.getElem_cons_succ, List.getElem_cons_zero, List.setIfInBounds_toArray, List.set_cons_zero, List.set_cons_succ]
  refine anyI_take R 2 rfl (v := (.int .i64 ((i : Int) % 3))) (by kernel_rfl) (by rfl) (fun V hV => by go_simp) (Lib.hid trivial) ?_
  try simp only [Act.put, List.getElem_toArray, List.getElem_cons_succ, List.getElem_cons_zero, List.setIfInBounds_toArray, List.set_cons_zero, List.set_cons_succ]
  refine anyI_take R 3 rfl (v := (.int .i64 (i : Int))) (by kernel_rfl) (by rfl) (fun V hV => by go_simp) (Lib.hid trivial) ?_
  try simp only [Act.put, List.getElem_toArray, List.getElem_cons_succ, List.getElem_cons_zero, List.setIfInBounds_toArray, List.set_cons_zero, List.set_cons_succ]
  refine anyI_take R 4 rfl (v := (.int .i64 (i : Int))) (by kernel_rfl) (by rfl) (fun V hV => by go_simp) (Lib.hid trivial) ?_
  try simp only [Act.put, List.getElem_toArray, List.getElem_cons_succ, List.getElem_cons_zero, List.setIfInBounds_toArray, List.set_cons_zero, List.set_cons_succ]
  refine anyI_take R 5 rfl (v := (.int .i64 ((i : Int) + 90))) (by kernel_rfl) (by rfl) (fun V hV => by go_simp) (Lib.hid trivial) ?_
  try simp only [Act.put, List.getElem_toArray, List.getElem_cons_succ, List.getElem_cons_zero, List.setIfInBounds_toArray, List.set_cons_zero, List.set_cons_succ]
  refine anyI_take R 8 rfl (v := (.pointer (some ⟨b, 0, none⟩))) (by kernel_rfl) (by rfl) (fun V hV => by go_simp) (Lib.hid trivial) ?_
  try simp only [Act.put, List.getElem_toArray, List.getElem_cons_succ, List.getElem_cons_zero, List.setIfInBounds_toArray, List.set_cons_zero, List.set_cons_succ]
  refine anyI_take R 9 rfl (v := (.int .i64 (i : Int))) (by kernel_rfl) (by rfl) (fun V hV => by go_simp) (Lib.hid trivial) ?_
  try simp only [Act.put, List.getElem_toArray, List.getElem_cons_succ, List.getElem_cons_zero, List.setIfInBounds_toArray, List.set_cons_zero, List.set_cons_succ]
  refine anyI_take R 10 rfl (v := (.int .i64 ((i : Int) % 3))) (by kernel_rfl) (by rfl) (fun V hV => by go_simp) (Lib.hid trivial) ?_
  try simp only [Act.put, List.getElem_toArray, List.getElem_cons_succ, List.getElem_cons_zero, List.setIfInBounds_toArray, List.set_cons_zero, List.set_cons_succ]
  refine anyI_take R 11 rfl (v := (.int .i64 (i : Int))) (by kernel_rfl) (by rfl) (fun V hV => by go_simp) (Lib.hid trivial) ?_
  try simp only [Act.put, List.getElem_toArray, List.getElem_cons_succ, List.getElem_cons_zero, List.setIfInBounds_toArray, List.set_cons_zero, List.set_cons_succ]
  refine anyI_take R 12 rfl (v := (.int .i64 (i : Int))) (by kernel_rfl) (by rfl) (fun V hV => by go_simp) (Lib.hid trivial) ?_
  try simp only [Act.put, List.getElem_toArray, List.getElem_cons_succ, List.getElem_cons_zero, List.setIfInBounds_toArray, List.set_cons_zero, List.set_cons_succ]
  refine anyI_take R 13 rfl (v := (.int .i64 ((i : Int) + 90))) (by kernel_rfl) (by rfl) (fun V hV => by go_simp) (Lib.hid trivial) ?_
  try simp only [Act.put, List.getElem_toArray, List.getElem_cons_succ, List.getElem_cons_zero, List.setIfInBounds_toArray, List.set_cons_zero, List.set_cons_succ]
  refine anyI_one 6 (by kernel_rfl) rfl ?_
  try simp only [List.getElem_toArray, List.getElem_cons_succ, List.getElem_cons_zero]
  refine opE_step ?_
  rw [if_pos (by rfl)]
  go_simp
  go_at_call 11
  refine (CS.out _).mono ?_
  rintro e w3 ⟨g, rfl, ho, hb⟩
  dsimp only
  have Hp3 := Lib.hid (Hp.out.grow hb)
  have Hr3 := Lib.hid ho.rdS.1
  clear ho hb
  refine ⟨Lib.hid trivial, ?_⟩
  try simp only [Act.put, List.getElem_toArray, List.getElem_cons_succ, List.getElem_cons_zero, List.setIfInBounds_toArray, List.set_cons_zero, List.set_cons_succ]
  refine anyI_one 7 (by kernel_rfl) rfl ?_
  try simp only [List.getElem_toArray, List.getElem_cons_succ, List.getElem_cons_zero]
  refine opE_step ?_
  rw [if_pos (by rfl)]
  go_simp
  go_at_call 10
  refine (bp_write _ _ _ _ _ Hp3.out.p2 ((i : Int) % 3) (i : Int) (sectorB ((i : Int) + 90)) (some ⟨g, 0, none⟩) 32 32 hx.out.symm ⟨by omega, by omega⟩ ⟨by omega, by omega⟩ Hr3.out (HN.out.psb (by omega)) (by have := HN.out.done; omega)).mono ?_
  rintro e w4 ⟨rfl, hbc⟩
  dsimp only
  obtain ⟨H4, hp4⟩ := Hp3.out.step2 (Bch.write_n _ _ _ _) hbc
  have Hp4 := Lib.hid hp4
  clear hp4 hbc Hr3 Hp3
  refine ⟨Lib.hid trivial, ?_⟩
  try simp only [Act.put, List.getElem_toArray, List.getElem_cons_succ, List.getElem_cons_zero, List.setIfInBounds_toArray, List.set_cons_zero, List.set_cons_succ]
  refine anyI_one 14 (by kernel_rfl) rfl ?_
  try simp only [List.getElem_toArray, List.getElem_cons_succ, List.getElem_cons_zero]
  refine opE_step ?_
  rw [if_pos (by rfl)]
  go_simp
  go_at_call 11
  refine (CS.out _).mono ?_
  rintro e w5 ⟨g5, rfl, ho, hb⟩
  dsimp only
  have Hp5 := Lib.hid (Hp4.out.grow hb)
  have Hr5 := Lib.hid ho.rdS.1
  clear ho hb
  refine ⟨Lib.hid trivial, ?_⟩
  try simp only [Act.put, List.getElem_toArray, List.getElem_cons_succ, List.getElem_cons_zero, List.setIfInBounds_toArray, List.set_cons_zero, List.set_cons_succ]
  refine anyI_one 15 (by kernel_rfl) rfl ?_
  try simp only [List.getElem_toArray, List.getElem_cons_succ, List.getElem_cons_zero]
  refine opE_step ?_
  rw [if_pos (by rfl)]
  go_simp
  go_at_call 10
  refine (bp_write _ _ _ _ _ Hp5.out.p1 ((i : Int) % 3) (i : Int) (sectorB ((i : Int) + 90)) (some ⟨g5, 0, none⟩) 32 32 hx.out.symm ⟨by omega, by omega⟩ ⟨by omega, by omega⟩ Hr5.out (HN.out.psb (by omega)) (by have := HN.out.done; omega)).mono ?_
  rintro e w6 ⟨rfl, hbc⟩
  dsimp only
  obtain ⟨H6, hp6⟩ := Hp5.out.step1 (Bch.write_n _ _ _ _) hbc
  have Hp6 := Lib.hid hp6
  clear hp6 hbc Hr5 Hp5
  have C1 := Lib.hid (bp_down _ _ _ _ _ Hp6.out.p2)
  have C2 := Lib.hid (bp_down _ _ _ _ _ Hp6.out.p1)
  refine ⟨Lib.hid trivial, ?_⟩
  try simp only [Act.put, List.getElem_toArray, List.getElem_cons_succ, List.getElem_cons_zero, List.setIfInBounds_toArray, List.set_cons_zero, List.set_cons_succ]
  refine anyI_take R 16 rfl (v := (.bool false)) (by kernel_rfl) (by rfl) (fun V hV => by go_simp) (Lib.hid trivial) ?_
  try simp only [Act.put, List.getElem_toArray, List.getElem_cons_succ, List.getElem_cons_zero, List.setIfInBounds_toArray, List.set_cons_zero, List.set_cons_succ]
  refine anyI_take R 17 rfl (v := (.bool false)) (by kernel_rfl) (by rfl) (fun V hV => by go_simp) (Lib.hid trivial) ?_
  try simp only [Act.put, List.getElem_toArray, List.getElem_cons_succ, List.getElem_cons_zero, List.setIfInBounds_toArray, List.set_cons_zero, List.set_cons_succ]
  refine anyI_take R 18 rfl (v := (.pointer (some ⟨b2, 0, none⟩))) (by kernel_rfl) (by rfl) (fun V hV => by go_simp) (Lib.hid trivial) ?_
  try simp only [Act.put, List.getElem_toArray, List.getElem_cons_succ, List.getElem_cons_zero, List.setIfInBounds_toArray, List.set_cons_zero, List.set_cons_succ]
  refine anyI_take R 19 rfl (v := (.pointer (some ⟨b2, 0, none⟩))) (by kernel_rfl) (by rfl) (fun V hV => by go_simp) (Lib.hid trivial) ?_
  try simp only [Act.put, List.getElem_toArray, List.getElem_cons_succ, List.getElem_cons_zero, List.setIfInBounds_toArray, List.set_cons_zero, List.set_cons_succ]
  refine anyI_take R 20 rfl (v := (.pointer (some ⟨b2, 0, none⟩))) (by kernel_rfl) (by rfl) (fun V hV => by go_simp) (Lib.hid trivial) ?_
  try simp only [Act.put, List.getElem_toArray, List.getElem_cons_succ, List.getElem_cons_zero, List.setIfInBounds_toArray, List.set_cons_zero, List.set_cons_succ]
  refine anyI_take R 22 rfl (v := (.pointer (some ⟨b, 0, none⟩))) (by kernel_rfl) (by rfl) (fun V hV => by go_simp) (Lib.hid trivial) ?_
  try simp only [Act.put, List.getElem_toArray, List.getElem_cons_succ, List.getElem_cons_zero, List.setIfInBounds_toArray, List.set_cons_zero, List.set_cons_succ]
  refine anyI_take R 23 rfl (v := (.pointer (some ⟨b, 0, none⟩))) (by kernel_rfl) (by rfl) (fun V hV => by go_simp) (Lib.hid trivial) ?_
  try simp only [Act.put, List.getElem_toArray, List.getElem_cons_succ, List.getElem_cons_zero, List.setIfInBounds_toArray, List.set_cons_zero, List.set_cons_succ]
  refine anyI_take R 24 rfl (v := (.pointer (some ⟨b, 0, none⟩))) (by kernel_rfl) (by rfl) (fun V hV => by go_simp) (Lib.hid trivial) ?_
  try simp only [Act.put, List.getElem_toArray, List.getElem_cons_succ, List.getElem_cons_zero, List.setIfInBounds_toArray, List.set_cons_zero, List.set_cons_succ]
  refine anyI_one 21 (by kernel_rfl) rfl ?_
  try simp only [List.getElem_toArray, List.getElem_cons_succ, List.getElem_cons_zero]
  refine opE_step ?_
  rw [if_pos (by rfl)]
  go_simp
  go_at_call 34
  refine (C1.out).mono ?_
  rintro e w1 ⟨rfl, rfl⟩
  dsimp only
  refine ⟨Lib.hid trivial, ?_⟩
  try simp only [Act.put, List.getElem_toArray, List.getElem_cons_succ, List.getElem_cons_zero, List.setIfInBounds_toArray, List.set_cons_zero, List.set_cons_succ]
  refine anyI_one 25 (by kernel_rfl) rfl ?_
  try simp only [List.getElem_toArray, List.getElem_cons_succ, List.getElem_cons_zero]
  refine opE_step ?_
  rw [if_pos (by rfl)]
  go_simp
  go_at_call 34
  refine (C2.out).mono ?_
  rintro e w1 ⟨rfl, rfl⟩
  dsimp only
  refine ⟨Lib.hid trivial, ?_⟩
  try simp only [Act.put, List.getElem_toArray, List.getElem_cons_succ, List.getElem_cons_zero, List.setIfInBounds_toArray, List.set_cons_zero, List.set_cons_succ]
  refine anyI_take R 26 rfl (v := (.bool false)) (by kernel_rfl) (by rfl) (fun V hV => by go_simp) (Lib.hid trivial) ?_
  try simp only [Act.put, List.getElem_toArray, List.getElem_cons_succ, List.getElem_cons_zero, List.setIfInBounds_toArray, List.set_cons_zero, List.set_cons_succ]
  refine anyI_take R 27 rfl (v := (.bool false)) (by kernel_rfl) (by rfl) (fun V hV => by go_simp) (Lib.hid trivial) ?_
  try simp only [Act.put, List.getElem_toArray, List.getElem_cons_succ, List.getElem_cons_zero, List.setIfInBounds_toArray, List.set_cons_zero, List.set_cons_succ]
  refine anyI_tail (by kernel_rfl) ?_
  try simp only [List.drop_succ_cons, List.drop_zero]
  clear R
  go_wp2_with fail
  refine NoPanic.normal ?_
  go_wp2_with fail
  exact HK.out _ _ _ _ _ _ _ _ _ _ _ _ _ _ _ _ _ _ _ _ _ _ _ _ _ _ _ _ _ _ _ Hp6.out HN2.out
end Go.Proofs.Ytpiilfgikgkneaa
