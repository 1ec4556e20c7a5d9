/- Texts put together: StripeReadsEnd, StripeReadsRow. -/
import Derived.Test.YtpaegibaikpikaaSbbj
import Derived.Test.YtpaegibaikpikaaSbbi
import Derived.Test.YtpaegibaikpikaaSbak
section
set_option linter.unusedVariables false
set_option linter.unusedSimpArgs false
namespace Go.Proofs.Ytpaegibaikpikaa
open Go.RowKit

noncomputable def codeSR : Code := Try.f5.body.getD .skip
theorem datL_32 {zs : List Int} {ρ W k : Nat} (h : k < W) : ((datL zs ρ W).getD k []).length = 32 := mem_getD datL_mem (by rw [datL_len]; exact h)
set_option maxRecDepth 100000 in
set_option maxHeartbeats 3200000 in
theorem srCb {W1 : World} {l c a1 : Int} {D W ρ gn cn k0 : Nat} {kk : Nat} {j : Nat} {w : World} (u0 u1 u2 u3 u4 u5 u7 u8 u9 u10 u11 u12 u13 u14 u15 u16 u17 u18 u19 u20 u21 u22 u23 u24 u26 u27 u28 u29 u30 u31 u32 u33 u34 u35 u36 u37 u38 u39 u40 u41 u42 u43 u44 u45 u46 u47 u48 u49 u50 u51 u52 u53 u54 u55 u56 u57 u58 u59 u60 u61 u62 u63 u64 u65 u66 u67 u68 u69 u70 u71 u72 u73 u74 u75 u76 u77 u78 u79 u80 u81 u82 u83 u84 u85 u86 u87 u88 u89 u90 u91 u92 u93 u94 u95 u96 u97 u98 u99 u100 u101 u102 u103 u104 u105 u106 u107 u108 u109 u110 u111 u112 u113 u114 u115 u116 u117 u118 u119 u120 u121 u122 u123 u124 u125 u126 u127 u128 u129 u130 u131 u132 u133 u134 u135 u136 u137 u138 u139 u140 u141 u142 u143 u144 u145 u146 u147 u148 u149 u150 u151 u152 u153 u154 u155 u156 u157 u158 u159 u160 u164 u165 u166 u167 u168 u169 u170 u171 u172 u173 u174 u175 u176 u177 u178 u179 u180 u181 u182 u183 u184 u185 u186 u187 u188 : Value) (K : Act → World → Prop) (Q0 : Exit → Act → World → Prop) (hW : W ≤ 8) (hcell : ∀ k, k < W → W1.cell? ⟨gn, k, none⟩ = some (.int .i64 (plN l (D : Int) c (ρ : Int) (k : Int)))) (hat : (plN l (D : Int) c (ρ : Int) (k0 : Int)) = a1) (hne : ∀ k, k < W → k ≠ k0 → (plN l (D : Int) c (ρ : Int) (k : Int)) ≠ a1) (hI : (j ≤ W ∧ kk = (if k0 < j then k0 else 0) ∧ w = W1))
    (hK : ∀ (v26 v27 v164 v165 v166 v167 v168 v169 v170 v171 v172 : Value) (kk2 : Nat) (V : World), ((j + 1) ≤ W ∧ kk2 = (if k0 < (j + 1) then k0 else 0) ∧ V = W1) → W - (j + 1) < W - j → K ⟨List.toArray (u0 :: u1 :: u2 :: u3 :: u4 :: u5 :: (.int .i64 a1) :: u7 :: u8 :: u9 :: u10 :: u11 :: u12 :: u13 :: u14 :: u15 :: u16 :: u17 :: u18 :: u19 :: u20 :: u21 :: u22 :: u23 :: u24 :: (.int .i64 ((kk2 : Nat) : Int)) :: v26 :: v27 :: u28 :: u29 :: u30 :: u31 :: u32 :: u33 :: u34 :: u35 :: u36 :: u37 :: u38 :: u39 :: u40 :: u41 :: u42 :: u43 :: u44 :: u45 :: u46 :: u47 :: u48 :: u49 :: u50 :: u51 :: u52 :: u53 :: u54 :: u55 :: u56 :: u57 :: u58 :: u59 :: u60 :: u61 :: u62 :: u63 :: u64 :: u65 :: u66 :: u67 :: u68 :: u69 :: u70 :: u71 :: u72 :: u73 :: u74 :: u75 :: u76 :: u77 :: u78 :: u79 :: u80 :: u81 :: u82 :: u83 :: u84 :: u85 :: u86 :: u87 :: u88 :: u89 :: u90 :: u91 :: u92 :: u93 :: u94 :: u95 :: u96 :: u97 :: u98 :: u99 :: u100 :: u101 :: u102 :: u103 :: u104 :: u105 :: u106 :: u107 :: u108 :: u109 :: u110 :: u111 :: u112 :: u113 :: u114 :: u115 :: u116 :: u117 :: u118 :: u119 :: u120 :: u121 :: u122 :: u123 :: u124 :: u125 :: u126 :: u127 :: u128 :: u129 :: u130 :: u131 :: u132 :: u133 :: u134 :: u135 :: u136 :: u137 :: u138 :: u139 :: u140 :: u141 :: u142 :: u143 :: u144 :: u145 :: u146 :: u147 :: u148 :: u149 :: u150 :: u151 :: u152 :: u153 :: u154 :: u155 :: u156 :: u157 :: u158 :: u159 :: u160 :: (.slice (some ⟨gn, 0, none⟩) W cn) :: (.int .i64 (W : Int)) :: (.int .i64 (((j + 1) : Nat) : Int)) :: v164 :: v165 :: v166 :: v167 :: v168 :: v169 :: v170 :: v171 :: v172 :: u173 :: u174 :: u175 :: u176 :: u177 :: u178 :: u179 :: u180 :: u181 :: u182 :: u183 :: u184 :: u185 :: u186 :: u187 :: u188 :: []), []⟩ V)
    (hX : ∀ (v26 v27 v164 v165 v166 v167 v168 v169 v170 v171 v172 : Value), (j = W) → Q0 (.exit 1) ⟨List.toArray (u0 :: u1 :: u2 :: u3 :: u4 :: u5 :: (.int .i64 a1) :: u7 :: u8 :: u9 :: u10 :: u11 :: u12 :: u13 :: u14 :: u15 :: u16 :: u17 :: u18 :: u19 :: u20 :: u21 :: u22 :: u23 :: u24 :: (.int .i64 ((kk : Nat) : Int)) :: v26 :: v27 :: u28 :: u29 :: u30 :: u31 :: u32 :: u33 :: u34 :: u35 :: u36 :: u37 :: u38 :: u39 :: u40 :: u41 :: u42 :: u43 :: u44 :: u45 :: u46 :: u47 :: u48 :: u49 :: u50 :: u51 :: u52 :: u53 :: u54 :: u55 :: u56 :: u57 :: u58 :: u59 :: u60 :: u61 :: u62 :: u63 :: u64 :: u65 :: u66 :: u67 :: u68 :: u69 :: u70 :: u71 :: u72 :: u73 :: u74 :: u75 :: u76 :: u77 :: u78 :: u79 :: u80 :: u81 :: u82 :: u83 :: u84 :: u85 :: u86 :: u87 :: u88 :: u89 :: u90 :: u91 :: u92 :: u93 :: u94 :: u95 :: u96 :: u97 :: u98 :: u99 :: u100 :: u101 :: u102 :: u103 :: u104 :: u105 :: u106 :: u107 :: u108 :: u109 :: u110 :: u111 :: u112 :: u113 :: u114 :: u115 :: u116 :: u117 :: u118 :: u119 :: u120 :: u121 :: u122 :: u123 :: u124 :: u125 :: u126 :: u127 :: u128 :: u129 :: u130 :: u131 :: u132 :: u133 :: u134 :: u135 :: u136 :: u137 :: u138 :: u139 :: u140 :: u141 :: u142 :: u143 :: u144 :: u145 :: u146 :: u147 :: u148 :: u149 :: u150 :: u151 :: u152 :: u153 :: u154 :: u155 :: u156 :: u157 :: u158 :: u159 :: u160 :: (.slice (some ⟨gn, 0, none⟩) W cn) :: (.int .i64 (W : Int)) :: (.int .i64 ((j : Nat) : Int)) :: v164 :: v165 :: v166 :: v167 :: v168 :: v169 :: v170 :: v171 :: v172 :: u173 :: u174 :: u175 :: u176 :: u177 :: u178 :: u179 :: u180 :: u181 :: u182 :: u183 :: u184 :: u185 :: u186 :: u187 :: u188 :: []), []⟩ w) :
    Code.wp Try.prog (sub [1, 1, 1, 1, 1, 1, 1, 1, 1, 1, 1, 1, 1, 1, 1, 1, 1, 0, 1, 0, 0] codeSR) (Exit.then K Q0) ⟨List.toArray (u0 :: u1 :: u2 :: u3 :: u4 :: u5 :: (.int .i64 a1) :: u7 :: u8 :: u9 :: u10 :: u11 :: u12 :: u13 :: u14 :: u15 :: u16 :: u17 :: u18 :: u19 :: u20 :: u21 :: u22 :: u23 :: u24 :: (.int .i64 ((kk : Nat) : Int)) :: u26 :: u27 :: u28 :: u29 :: u30 :: u31 :: u32 :: u33 :: u34 :: u35 :: u36 :: u37 :: u38 :: u39 :: u40 :: u41 :: u42 :: u43 :: u44 :: u45 :: u46 :: u47 :: u48 :: u49 :: u50 :: u51 :: u52 :: u53 :: u54 :: u55 :: u56 :: u57 :: u58 :: u59 :: u60 :: u61 :: u62 :: u63 :: u64 :: u65 :: u66 :: u67 :: u68 :: u69 :: u70 :: u71 :: u72 :: u73 :: u74 :: u75 :: u76 :: u77 :: u78 :: u79 :: u80 :: u81 :: u82 :: u83 :: u84 :: u85 :: u86 :: u87 :: u88 :: u89 :: u90 :: u91 :: u92 :: u93 :: u94 :: u95 :: u96 :: u97 :: u98 :: u99 :: u100 :: u101 :: u102 :: u103 :: u104 :: u105 :: u106 :: u107 :: u108 :: u109 :: u110 :: u111 :: u112 :: u113 :: u114 :: u115 :: u116 :: u117 :: u118 :: u119 :: u120 :: u121 :: u122 :: u123 :: u124 :: u125 :: u126 :: u127 :: u128 :: u129 :: u130 :: u131 :: u132 :: u133 :: u134 :: u135 :: u136 :: u137 :: u138 :: u139 :: u140 :: u141 :: u142 :: u143 :: u144 :: u145 :: u146 :: u147 :: u148 :: u149 :: u150 :: u151 :: u152 :: u153 :: u154 :: u155 :: u156 :: u157 :: u158 :: u159 :: u160 :: (.slice (some ⟨gn, 0, none⟩) W cn) :: (.int .i64 (W : Int)) :: (.int .i64 ((j : Nat) : Int)) :: u164 :: u165 :: u166 :: u167 :: u168 :: u169 :: u170 :: u171 :: u172 :: u173 :: u174 :: u175 :: u176 :: u177 :: u178 :: u179 :: u180 :: u181 :: u182 :: u183 :: u184 :: u185 :: u186 :: u187 :: u188 :: []), []⟩ w := by
  have HK := Lib.hid hK
  have HX := Lib.hid hX
  clear hK hX
  conv => arg 2; whnf
  obtain ⟨hj, hkk, rfl⟩ := hI
  have Hkk := Lib.hid hkk
  clear hkk
  by_cases hlt : j < W
  · have i0 : (0 : Int) ≤ (j : Int) := by omega
    have i1 : (j : Int) < (W : Int) := by omega
    have hc := hcell j hlt
    by_cases e : j = k0
    · subst e
      have e1 : (plN l (D : Int) c (ρ : Int) (j : Int) == a1) = true := by rw [hat]; exact beq_self_eq_true _
      have Hn := Lib.hid (show j = if j < j + 1 then j else 0 from (if_pos (Nat.lt_succ_self _)).symm)
      clear HX hcell hne hat
      generalize plN l (D : Int) c (ρ : Int) (j : Int) = z at hc e1
      go_wp2_with fail
      exact HK.out _ _ _ _ _ _ _ _ _ _ _ j _ ⟨by omega, Hn.out, rfl⟩ (by omega)
    · have e1 : (plN l (D : Int) c (ρ : Int) (j : Int) == a1) = false := by rw [beq_eq_false_iff_ne]; exact hne j hlt e
      have Hn := Lib.hid (show kk = if k0 < j + 1 then k0 else 0 by rw [Hkk.out]; by_cases h : k0 < j; rw [if_pos h, if_pos (by omega)]; rw [if_neg h, if_neg (by omega)])
      clear HX hcell hne hat e
      generalize plN l (D : Int) c (ρ : Int) (j : Int) = z at hc e1
      go_wp2_with fail
      exact HK.out _ _ _ _ _ _ _ _ _ _ _ kk _ ⟨by omega, Hn.out, rfl⟩ (by omega)
  · have i1 : ¬ (j : Int) < (W : Int) := by omega
    have Hin := Lib.hid (show j = W by omega)
    clear HK
    go_wp2_with fail
    exact HX.out _ _ _ _ _ _ _ _ _ _ _ Hin.out
set_option maxRecDepth 100000 in
set_option maxHeartbeats 3200000 in
theorem srC {W1 : World} {l c a1 : Int} {D W ρ gn cn k0 : Nat}  {w : World} (u0 u1 u2 u3 u4 u5 u7 u8 u9 u10 u11 u12 u13 u14 u15 u16 u17 u18 u19 u20 u21 u22 u23 u24 u26 u27 u28 u29 u30 u31 u32 u33 u34 u35 u36 u37 u38 u39 u40 u41 u42 u43 u44 u45 u46 u47 u48 u49 u50 u51 u52 u53 u54 u55 u56 u57 u58 u59 u60 u61 u62 u63 u64 u65 u66 u67 u68 u69 u70 u71 u72 u73 u74 u75 u76 u77 u78 u79 u80 u81 u82 u83 u84 u85 u86 u87 u88 u89 u90 u91 u92 u93 u94 u95 u96 u97 u98 u99 u100 u101 u102 u103 u104 u105 u106 u107 u108 u109 u110 u111 u112 u113 u114 u115 u116 u117 u118 u119 u120 u121 u122 u123 u124 u125 u126 u127 u128 u129 u130 u131 u132 u133 u134 u135 u136 u137 u138 u139 u140 u141 u142 u143 u144 u145 u146 u147 u148 u149 u150 u151 u152 u153 u154 u155 u156 u157 u158 u159 u160 u164 u165 u166 u167 u168 u169 u170 u171 u172 u173 u174 u175 u176 u177 u178 u179 u180 u181 u182 u183 u184 u185 u186 u187 u188 : Value) (Q : Exit → Act → World → Prop) (hW : W ≤ 8) (hcell : ∀ k, k < W → W1.cell? ⟨gn, k, none⟩ = some (.int .i64 (plN l (D : Int) c (ρ : Int) (k : Int)))) (hat : (plN l (D : Int) c (ρ : Int) (k0 : Int)) = a1) (hne : ∀ k, k < W → k ≠ k0 → (plN l (D : Int) c (ρ : Int) (k : Int)) ≠ a1) (hI : (0 ≤ W ∧ 0 = (if k0 < 0 then k0 else 0) ∧ w = W1))
    (hX : ∀ (v26 v27 v164 v165 v166 v167 v168 v169 v170 v171 v172 : Value) (kk : Nat) (j : Nat) (V : World), (j ≤ W ∧ kk = (if k0 < j then k0 else 0) ∧ V = W1) → (j = W) → Q (.exit 1) ⟨List.toArray (u0 :: u1 :: u2 :: u3 :: u4 :: u5 :: (.int .i64 a1) :: u7 :: u8 :: u9 :: u10 :: u11 :: u12 :: u13 :: u14 :: u15 :: u16 :: u17 :: u18 :: u19 :: u20 :: u21 :: u22 :: u23 :: u24 :: (.int .i64 ((kk : Nat) : Int)) :: v26 :: v27 :: u28 :: u29 :: u30 :: u31 :: u32 :: u33 :: u34 :: u35 :: u36 :: u37 :: u38 :: u39 :: u40 :: u41 :: u42 :: u43 :: u44 :: u45 :: u46 :: u47 :: u48 :: u49 :: u50 :: u51 :: u52 :: u53 :: u54 :: u55 :: u56 :: u57 :: u58 :: u59 :: u60 :: u61 :: u62 :: u63 :: u64 :: u65 :: u66 :: u67 :: u68 :: u69 :: u70 :: u71 :: u72 :: u73 :: u74 :: u75 :: u76 :: u77 :: u78 :: u79 :: u80 :: u81 :: u82 :: u83 :: u84 :: u85 :: u86 :: u87 :: u88 :: u89 :: u90 :: u91 :: u92 :: u93 :: u94 :: u95 :: u96 :: u97 :: u98 :: u99 :: u100 :: u101 :: u102 :: u103 :: u104 :: u105 :: u106 :: u107 :: u108 :: u109 :: u110 :: u111 :: u112 :: u113 :: u114 :: u115 :: u116 :: u117 :: u118 :: u119 :: u120 :: u121 :: u122 :: u123 :: u124 :: u125 :: u126 :: u127 :: u128 :: u129 :: u130 :: u131 :: u132 :: u133 :: u134 :: u135 :: u136 :: u137 :: u138 :: u139 :: u140 :: u141 :: u142 :: u143 :: u144 :: u145 :: u146 :: u147 :: u148 :: u149 :: u150 :: u151 :: u152 :: u153 :: u154 :: u155 :: u156 :: u157 :: u158 :: u159 :: u160 :: (.slice (some ⟨gn, 0, none⟩) W cn) :: (.int .i64 (W : Int)) :: (.int .i64 ((j : Nat) : Int)) :: v164 :: v165 :: v166 :: v167 :: v168 :: v169 :: v170 :: v171 :: v172 :: u173 :: u174 :: u175 :: u176 :: u177 :: u178 :: u179 :: u180 :: u181 :: u182 :: u183 :: u184 :: u185 :: u186 :: u187 :: u188 :: []), []⟩ V) :
    Code.wp Try.prog (.loop (sub [1, 1, 1, 1, 1, 1, 1, 1, 1, 1, 1, 1, 1, 1, 1, 1, 1, 0, 1, 0, 0] codeSR)) Q ⟨List.toArray (u0 :: u1 :: u2 :: u3 :: u4 :: u5 :: (.int .i64 a1) :: u7 :: u8 :: u9 :: u10 :: u11 :: u12 :: u13 :: u14 :: u15 :: u16 :: u17 :: u18 :: u19 :: u20 :: u21 :: u22 :: u23 :: u24 :: (.int .i64 ((0 : Nat) : Int)) :: u26 :: u27 :: u28 :: u29 :: u30 :: u31 :: u32 :: u33 :: u34 :: u35 :: u36 :: u37 :: u38 :: u39 :: u40 :: u41 :: u42 :: u43 :: u44 :: u45 :: u46 :: u47 :: u48 :: u49 :: u50 :: u51 :: u52 :: u53 :: u54 :: u55 :: u56 :: u57 :: u58 :: u59 :: u60 :: u61 :: u62 :: u63 :: u64 :: u65 :: u66 :: u67 :: u68 :: u69 :: u70 :: u71 :: u72 :: u73 :: u74 :: u75 :: u76 :: u77 :: u78 :: u79 :: u80 :: u81 :: u82 :: u83 :: u84 :: u85 :: u86 :: u87 :: u88 :: u89 :: u90 :: u91 :: u92 :: u93 :: u94 :: u95 :: u96 :: u97 :: u98 :: u99 :: u100 :: u101 :: u102 :: u103 :: u104 :: u105 :: u106 :: u107 :: u108 :: u109 :: u110 :: u111 :: u112 :: u113 :: u114 :: u115 :: u116 :: u117 :: u118 :: u119 :: u120 :: u121 :: u122 :: u123 :: u124 :: u125 :: u126 :: u127 :: u128 :: u129 :: u130 :: u131 :: u132 :: u133 :: u134 :: u135 :: u136 :: u137 :: u138 :: u139 :: u140 :: u141 :: u142 :: u143 :: u144 :: u145 :: u146 :: u147 :: u148 :: u149 :: u150 :: u151 :: u152 :: u153 :: u154 :: u155 :: u156 :: u157 :: u158 :: u159 :: u160 :: (.slice (some ⟨gn, 0, none⟩) W cn) :: (.int .i64 (W : Int)) :: (.int .i64 ((0 : Nat) : Int)) :: u164 :: u165 :: u166 :: u167 :: u168 :: u169 :: u170 :: u171 :: u172 :: u173 :: u174 :: u175 :: u176 :: u177 :: u178 :: u179 :: u180 :: u181 :: u182 :: u183 :: u184 :: u185 :: u186 :: u187 :: u188 :: []), []⟩ w := by
  refine wp_loop_ghost (fun gk a V => ∀ C : Prop, (∀ (u26 u27 u164 u165 u166 u167 u168 u169 u170 u171 u172 : Value) (kk : Nat) (j : Nat), gk = W - j → (j ≤ W ∧ kk = (if k0 < j then k0 else 0) ∧ V = W1) → a = ⟨List.toArray (u0 :: u1 :: u2 :: u3 :: u4 :: u5 :: (.int .i64 a1) :: u7 :: u8 :: u9 :: u10 :: u11 :: u12 :: u13 :: u14 :: u15 :: u16 :: u17 :: u18 :: u19 :: u20 :: u21 :: u22 :: u23 :: u24 :: (.int .i64 ((kk : Nat) : Int)) :: u26 :: u27 :: u28 :: u29 :: u30 :: u31 :: u32 :: u33 :: u34 :: u35 :: u36 :: u37 :: u38 :: u39 :: u40 :: u41 :: u42 :: u43 :: u44 :: u45 :: u46 :: u47 :: u48 :: u49 :: u50 :: u51 :: u52 :: u53 :: u54 :: u55 :: u56 :: u57 :: u58 :: u59 :: u60 :: u61 :: u62 :: u63 :: u64 :: u65 :: u66 :: u67 :: u68 :: u69 :: u70 :: u71 :: u72 :: u73 :: u74 :: u75 :: u76 :: u77 :: u78 :: u79 :: u80 :: u81 :: u82 :: u83 :: u84 :: u85 :: u86 :: u87 :: u88 :: u89 :: u90 :: u91 :: u92 :: u93 :: u94 :: u95 :: u96 :: u97 :: u98 :: u99 :: u100 :: u101 :: u102 :: u103 :: u104 :: u105 :: u106 :: u107 :: u108 :: u109 :: u110 :: u111 :: u112 :: u113 :: u114 :: u115 :: u116 :: u117 :: u118 :: u119 :: u120 :: u121 :: u122 :: u123 :: u124 :: u125 :: u126 :: u127 :: u128 :: u129 :: u130 :: u131 :: u132 :: u133 :: u134 :: u135 :: u136 :: u137 :: u138 :: u139 :: u140 :: u141 :: u142 :: u143 :: u144 :: u145 :: u146 :: u147 :: u148 :: u149 :: u150 :: u151 :: u152 :: u153 :: u154 :: u155 :: u156 :: u157 :: u158 :: u159 :: u160 :: (.slice (some ⟨gn, 0, none⟩) W cn) :: (.int .i64 (W : Int)) :: (.int .i64 ((j : Nat) : Int)) :: u164 :: u165 :: u166 :: u167 :: u168 :: u169 :: u170 :: u171 :: u172 :: u173 :: u174 :: u175 :: u176 :: u177 :: u178 :: u179 :: u180 :: u181 :: u182 :: u183 :: u184 :: u185 :: u186 :: u187 :: u188 :: []), []⟩ → C) → C) (W - 0) ?_ ?_
  · intro C hC
    exact hC _ _ _ _ _ _ _ _ _ _ _ (0) (0) rfl hI rfl
  · intro gk a V hI'
    refine hI' _ ?_
    intro u26 u27 u164 u165 u166 u167 u168 u169 u170 u171 u172 kk j hk hinv ha
    subst ha
    subst hk
    refine srCb _ _ _ _ _ _ _ _ _ _ _ _ _ _ _ _ _ _ _ _ _ _ _ _ _ _ _ _ _ _ _ _ _ _ _ _ _ _ _ _ _ _ _ _ _ _ _ _ _ _ _ _ _ _ _ _ _ _ _ _ _ _ _ _ _ _ _ _ _ _ _ _ _ _ _ _ _ _ _ _ _ _ _ _ _ _ _ _ _ _ _ _ _ _ _ _ _ _ _ _ _ _ _ _ _ _ _ _ _ _ _ _ _ _ _ _ _ _ _ _ _ _ _ _ _ _ _ _ _ _ _ _ _ _ _ _ _ _ _ _ _ _ _ _ _ _ _ _ _ _ _ _ _ _ _ _ _ _ _ _ _ _ _ _ _ _ _ _ _ _ _ _ _ _ _ _ _ _ _ _ _ _ _ _ _ _ hW hcell hat hne hinv (fun v26 v27 v164 v165 v166 v167 v168 v169 v170 v171 v172 kk2 V2 h2 hm => ?_) (fun v26 v27 v164 v165 v166 v167 v168 v169 v170 v171 v172 hx => hX v26 v27 v164 v165 v166 v167 v168 v169 v170 v171 v172 kk j V hinv hx)
    refine ⟨_, hm, fun C hC => ?_⟩
    exact hC v26 v27 v164 v165 v166 v167 v168 v169 v170 v171 v172 (kk2) ((j + 1)) rfl h2 rfl
set_option maxRecDepth 100000 in
set_option maxHeartbeats 3200000 in
theorem sr20 {W0 : World} {n l c r at0 : Int} {D F W m b gb gl cz mb : Nat} {A : Option Addr} {zs : List Int} {lv : List Bool} {H : BH} {N : Bch} {w : World} (u0 u1 u3 u4 u5 u7 u8 u9 u10 u11 u12 u13 u14 u19 u20 u21 u22 u23 u24 u25 u26 u27 u28 u29 u30 u31 u32 u33 u34 u35 u36 u37 u38 u39 u40 u41 u42 u43 u44 u45 u46 u47 u48 u49 u50 u51 u52 u53 u54 u55 u56 u57 u58 u59 u60 u61 u62 u63 u64 u65 u66 u67 u68 u69 u70 u71 u72 u73 u74 u75 u76 u77 u78 u79 u80 u81 u82 u83 u84 u85 u86 u87 u88 u89 u90 u91 u92 u93 u94 u95 u96 u97 u98 u99 u100 u101 u102 u103 u104 u105 u106 u107 u108 u109 u110 u111 u112 u113 u114 u115 u116 u117 u118 u119 u120 u121 u122 u123 u124 u125 u126 u127 u128 u129 u130 u131 u132 u133 u134 u135 u136 u137 u138 u139 u140 u141 u142 u143 u144 u145 u146 u147 u148 u149 u150 u151 u152 u153 u154 u155 u156 u157 u158 u159 u160 u161 u162 u163 u164 u165 u166 u167 u168 u169 u170 u171 u172 u173 u174 u175 u176 u177 u178 u179 u180 u181 u182 u183 u184 u185 u186 u187 u188 : Value) (Q : Exit → Act → World → Prop) (gr : Gr n l c r D F W) (hm : m ≤ 8) (hDm : D ≤ m) (hz : RdZ W0 W0.heap.size A zs) (hcz : zs.length ≤ cz) (hll : lv.length = m) (hst : Std N m D (rowL l c D W zs)) (hat0 : (-9223372036854775808 ≤ at0 ∧ at0 ≤ 9223372036854775807)) (hk : KS W0 w b H N [(gl, Obj.cells (lv.map Value.bool).toArray 4 (0, 0)), (gb, Obj.cells #[.int .i64 l, .int .i64 (D : Int), .int .i64 c] 24 (0, 0))] [] []) (hS : SetI w mb (gonL N lv D))
    (hQ : ∀ (v0 v1 v2 v3 v4 v5 v6 v7 v8 v9 v10 v11 v12 v13 v15 v16 v17 v18 v19 v20 v21 v22 v23 v24 v25 v26 v27 v28 v29 v30 v31 v32 v33 v34 v35 v36 v37 v38 v39 v40 v41 v42 v43 v44 v45 v46 v47 v48 v49 v50 v51 v52 v53 v54 v55 v56 v57 v58 v59 v60 v61 v62 v63 v64 v65 v66 v67 v68 v69 v70 v71 v72 v73 v74 v75 v76 v77 v78 v79 v80 v81 v82 v83 v84 v85 v86 v87 v88 v89 v90 v91 v92 v93 v94 v95 v96 v97 v98 v99 v100 v101 v102 v103 v104 v105 v106 v107 v108 v109 v110 v111 v112 v113 v114 v115 v116 v117 v118 v119 v120 v121 v122 v123 v124 v125 v126 v127 v128 v129 v130 v131 v132 v133 v134 v135 v136 v137 v138 v139 v140 v141 v142 v143 v144 v145 v146 v147 v148 v149 v150 v151 v152 v153 v154 v155 v156 v157 v158 v159 v160 v161 v162 v163 v164 v165 v166 v167 v168 v169 v170 v171 v172 v173 v174 v175 v176 v177 v178 v179 v180 v181 v182 v183 v184 v185 v186 v187 v188 : Value) (V : World), Below W0.heap.size W0 V → Q .ret ⟨List.toArray (v0 :: v1 :: v2 :: v3 :: v4 :: v5 :: v6 :: v7 :: v8 :: v9 :: v10 :: v11 :: v12 :: v13 :: (.bool true) :: v15 :: v16 :: v17 :: v18 :: v19 :: v20 :: v21 :: v22 :: v23 :: v24 :: v25 :: v26 :: v27 :: v28 :: v29 :: v30 :: v31 :: v32 :: v33 :: v34 :: v35 :: v36 :: v37 :: v38 :: v39 :: v40 :: v41 :: v42 :: v43 :: v44 :: v45 :: v46 :: v47 :: v48 :: v49 :: v50 :: v51 :: v52 :: v53 :: v54 :: v55 :: v56 :: v57 :: v58 :: v59 :: v60 :: v61 :: v62 :: v63 :: v64 :: v65 :: v66 :: v67 :: v68 :: v69 :: v70 :: v71 :: v72 :: v73 :: v74 :: v75 :: v76 :: v77 :: v78 :: v79 :: v80 :: v81 :: v82 :: v83 :: v84 :: v85 :: v86 :: v87 :: v88 :: v89 :: v90 :: v91 :: v92 :: v93 :: v94 :: v95 :: v96 :: v97 :: v98 :: v99 :: v100 :: v101 :: v102 :: v103 :: v104 :: v105 :: v106 :: v107 :: v108 :: v109 :: v110 :: v111 :: v112 :: v113 :: v114 :: v115 :: v116 :: v117 :: v118 :: v119 :: v120 :: v121 :: v122 :: v123 :: v124 :: v125 :: v126 :: v127 :: v128 :: v129 :: v130 :: v131 :: v132 :: v133 :: v134 :: v135 :: v136 :: v137 :: v138 :: v139 :: v140 :: v141 :: v142 :: v143 :: v144 :: v145 :: v146 :: v147 :: v148 :: v149 :: v150 :: v151 :: v152 :: v153 :: v154 :: v155 :: v156 :: v157 :: v158 :: v159 :: v160 :: v161 :: v162 :: v163 :: v164 :: v165 :: v166 :: v167 :: v168 :: v169 :: v170 :: v171 :: v172 :: v173 :: v174 :: v175 :: v176 :: v177 :: v178 :: v179 :: v180 :: v181 :: v182 :: v183 :: v184 :: v185 :: v186 :: v187 :: v188 :: []), []⟩ V) :
    Code.wp Try.prog (sub [1, 1, 1, 1, 1, 1, 1, 1, 1, 1, 1] codeSR) Q ⟨List.toArray (u0 :: u1 :: (.slice A zs.length cz) :: u3 :: u4 :: u5 :: (.int .i64 at0) :: u7 :: u8 :: u9 :: u10 :: u11 :: u12 :: u13 :: u14 :: (.pointer (some ⟨gb, 0, none⟩)) :: (.pointer (some ⟨b, 0, none⟩)) :: (.slice (some ⟨gl, 0, none⟩) m m) :: (.map (some mb)) :: u19 :: u20 :: u21 :: u22 :: u23 :: u24 :: u25 :: u26 :: u27 :: u28 :: u29 :: u30 :: u31 :: u32 :: u33 :: u34 :: u35 :: u36 :: u37 :: u38 :: u39 :: u40 :: u41 :: u42 :: u43 :: u44 :: u45 :: u46 :: u47 :: u48 :: u49 :: u50 :: u51 :: u52 :: u53 :: u54 :: u55 :: u56 :: u57 :: u58 :: u59 :: u60 :: u61 :: u62 :: u63 :: u64 :: u65 :: u66 :: u67 :: u68 :: u69 :: u70 :: u71 :: u72 :: u73 :: u74 :: u75 :: u76 :: u77 :: u78 :: u79 :: u80 :: u81 :: u82 :: u83 :: u84 :: u85 :: u86 :: u87 :: u88 :: u89 :: u90 :: u91 :: u92 :: u93 :: u94 :: u95 :: u96 :: u97 :: u98 :: u99 :: u100 :: u101 :: u102 :: u103 :: u104 :: u105 :: u106 :: u107 :: u108 :: u109 :: u110 :: u111 :: u112 :: u113 :: u114 :: u115 :: u116 :: u117 :: u118 :: u119 :: u120 :: u121 :: u122 :: u123 :: u124 :: u125 :: u126 :: u127 :: u128 :: u129 :: u130 :: u131 :: u132 :: u133 :: u134 :: u135 :: u136 :: u137 :: u138 :: u139 :: u140 :: u141 :: u142 :: u143 :: u144 :: u145 :: u146 :: u147 :: u148 :: u149 :: u150 :: u151 :: u152 :: u153 :: u154 :: u155 :: u156 :: u157 :: u158 :: u159 :: u160 :: u161 :: u162 :: u163 :: u164 :: u165 :: u166 :: u167 :: u168 :: u169 :: u170 :: u171 :: u172 :: u173 :: u174 :: u175 :: u176 :: u177 :: u178 :: u179 :: u180 :: u181 :: u182 :: u183 :: u184 :: u185 :: u186 :: u187 :: u188 :: []), []⟩ w := by
  have HQ := Lib.hid hQ
  clear hQ
  conv => arg 2; whnf
  have hd8 := gr.d8
  have hw7 := gr.w7
  have HWk := Lib.hid (fun V => wakesStp_any V)
  have HCp := Lib.hid (fun V => refCapacity_any l (D : Int) c V gr.l64 gr.d64 gr.c64)
  have hG := gCap_bd l (D : Int) c
  have CW := Lib.hid (fun V => within_any at0 (gCap l (D : Int) c + 2) V hat0 (by omega))
  have htb := withinI_bd at0 (gCap l (D : Int) c + 2) (by omega)
  obtain ⟨a1, ha1⟩ : ∃ a1, withinI at0 (gCap l (D : Int) c + 2) - 1 = a1 := ⟨_, rfl⟩
  have ha1b : -1 ≤ a1 ∧ a1 ≤ 112 := by omega
  have CO := ks_one (hk.less (fun _ h => h) (fun _ h => h) (fun _ h => h)) lv (some ⟨gl, 0, none⟩) m m hll.symm (hk.lv (g := gl) (t := 4) (f := (0, 0)) (lv := lv) (by simp) rfl (by omega)) l (D : Int) c a1 gr.l64 gr.d64 gr.c64 (by omega)
  have COf := Lib.hid (fun V (hb : Below w.heap.size w V) => ks_one (hk.below hb) lv (some ⟨gl, 0, none⟩) m m hll.symm ((hk.below hb).lv (g := gl) (t := 4) (f := (0, 0)) (lv := lv) (by simp) rfl (by omega)) l (D : Int) c a1 gr.l64 gr.d64 gr.c64 (by omega))
  have CF := Lib.hid (fun V => refOf_any l (D : Int) c a1 V gr.l64 gr.d64 gr.c64 (by omega))
  obtain ⟨g1, g2, g3⟩ := hk.gat (g := gb) (l := l) (d := (D : Int)) (c := c) (t := 24) (f := (0, 0)) (by simp)
  have Ha1 := Lib.hid ha1
  have HSt := Lib.hid hst
  have Gr' := Lib.hid gr
  have Hz := Lib.hid hz
  have Hk := Lib.hid hk
  have HS := Lib.hid hS
  generalize gCap l (D : Int) c = G at *
  generalize withinI at0 (G + 2) = t1 at *
  have ht1 : t1 - 1 = a1 := ha1
  have ew : IntKind.i64.wrap (t1 - 1) = t1 - 1 := by rw [IntKind.wrap_i64]; omega
  clear hk hS hst gr hz CO ha1
  go_wp2_with fail
  (with_reducible refine (HCp.out _).mono ?_); rintro e w1 ⟨rfl, hb1⟩
  have F1 := Lib.hid hb1
  obtain ⟨g4, g5, g6⟩ := (Hk.out.below hb1).gat (g := gb) (l := l) (d := (D : Int)) (c := c) (t := 24) (f := (0, 0)) (by simp)
  clear hb1 g1 g2 g3
  go_wp2_with fail
  (with_reducible refine (CW.out _).mono ?_); rintro e w2 ⟨rfl, rfl⟩
  have CO := Lib.hid (COf.out _ F1.out)
  clear COf
  go_wp2_with fail
  try rw [ht1]
  (with_reducible refine CO.out.mono ?_); rintro e w3 ⟨A21, c21, rfl, k3, hb3⟩
  have K3' := Lib.hid k3
  have F3 := Lib.hid (F1.out.trans (hb3.mono F1.out.size))
  obtain ⟨g1, g2, g3⟩ := k3.gat (g := gb) (l := l) (d := (D : Int)) (c := c) (t := 24) (f := (0, 0)) (by simp)
  clear k3 hb3 g4 g5 g6 CO F1
  go_wp2_with fail
  (with_reducible refine (CF.out _).mono ?_); rintro e w4 ⟨rfl, hb4⟩
  have K4 := Lib.hid (K3'.out.below hb4)
  have F4 := Lib.hid (F3.out.trans (hb4.mono F3.out.size))
  have S4 := HS.out.below F4.out
  have F5 := Lib.hid (K4.out.bp.bel)
  obtain ⟨g4, g5, g6⟩ := K4.out.gat (g := gb) (l := l) (d := (D : Int)) (c := c) (t := 24) (f := (0, 0)) (by simp)
  clear hb4 g1 g2 g3 F3 K3' CF HS CW HCp Ha1
  have hlb : ([] : List UInt8).length = 0 := rfl
  cases hok : plOfOk l (D : Int) c a1 with
  | false =>
    obtain ⟨e1, e2⟩ := soneE_no (N := N) (lv := lv) hok
    rw [e1, e2]
    clear S4 K4 HSt Gr' e1 e2 hok
    go_wp2_with fail
    (with_reducible refine (HWk.out _).mono ?_); rintro e w6 ⟨rfl, hb6⟩
    have F6 := F5.out.trans (hb6.mono F5.out.size)
    go_wp2_with fail
    exact HQ.out _ _ _ _ _ _ _ _ _ _ _ _ _ _ _ _ _ _ _ _ _ _ _ _ _ _ _ _ _ _ _ _ _ _ _ _ _ _ _ _ _ _ _ _ _ _ _ _ _ _ _ _ _ _ _ _ _ _ _ _ _ _ _ _ _ _ _ _ _ _ _ _ _ _ _ _ _ _ _ _ _ _ _ _ _ _ _ _ _ _ _ _ _ _ _ _ _ _ _ _ _ _ _ _ _ _ _ _ _ _ _ _ _ _ _ _ _ _ _ _ _ _ _ _ _ _ _ _ _ _ _ _ _ _ _ _ _ _ _ _ _ _ _ _ _ _ _ _ _ _ _ _ _ _ _ _ _ _ _ _ _ _ _ _ _ _ _ _ _ _ _ _ _ _ _ _ _ _ _ _ _ _ _ _ _ _ _ _ _ F6
  | true =>
    obtain ⟨hT, hkW, hnl, hatn, hfst, hD⟩ := nums_at hok
    obtain ⟨ρ, hρe⟩ := Int.eq_ofNat_of_zero_le (plOk_yes hT).2.1
    have hρ : ρ < 16 := by have := (plOk_yes hT).2.2; omega
    have grs := Gr'.out.at hρ
    rw [hρe] at hatn hfst hD hnl hT
    have eW := grs.eW
    rw [eW] at hkW
    have hwd := grs.wd
    obtain ⟨k0, hk0e⟩ : ∃ k0, kOf l (D : Int) c a1 = k0 := ⟨_, rfl⟩
    rw [hk0e] at hkW hatn hD
    have hk0 := hkW
    rw [plNums_get hT (by rw [hwd]; omega)] at hatn
    have Hat := Lib.hid hatn
    have Hne := Lib.hid (show ∀ k, k < W → k ≠ k0 → (plN l (D : Int) c (ρ : Int) (k : Int)) ≠ a1 from fun k hk hne e => by
      have := (num_place grs hk).2.2.2
      rw [e, hk0e] at this
      exact hne this.symm)
    have hpd := grs.R.pD k0 (by rw [eW]; exact hk0)
    rw [grs.eD] at hpd
    rw [hpd] at hD
    have hown := roS_lt grs.hF (k := k0) (by have := grs.hW; omega)
    have hlook := S4.look (((roS D (roF l (D : Int) c (ρ : Int)) k0 : Nat) : Int)) (by omega)
    rw [gonL_has hown] at hlook
    have CC := Lib.hid (can_any l c (ρ : Int) D mb _ w4 S4 (by omega) Gr'.out.l64 Gr'.out.c64 (by omega))
    rw [can_some HSt.out grs (datL_len zs ρ W) datL_mem rfl] at CC
    have TL := HSt.out.told grs (datL_len zs ρ W) datL_mem rfl lv
    have OO := fun hs => one_own (N := N) (lv := lv) grs hk0 HSt.out.dn hs
    have OR := fun hs => one_row (N := N) (lv := lv) grs hk0 hs
    rw [hatn] at OO OR
    have h32 : ((datL zs ρ W).getD k0 []).length = 32 := datL_32 hk0
    have OB := fun hs => (HSt.out.at' _ hown ρ hρ (srvD_yes (N := N) (lv := lv) hs).2.2).trans (show (rowL l c D W zs ρ).getD (roS D (roF l (D : Int) c (ρ : Int)) k0) [] = (datL zs ρ W).getD k0 [] by unfold rowL; rw [fillL_at grs.hF (by have := grs.hW; omega), allL_data (by rw [datL_len]; exact hk0)])
    rw [hD, hρe]
    generalize roS D (roF l (D : Int) c (ρ : Int)) k0 = own at *
    clear hatn hfst hnl hpd S4 hD hT hok hk0e hρe
    cases hs : srvD N lv own with
    | true =>
      rw [hs] at hlook
      have E1 := (OO hs).1
      have E2 := (OO hs).2.trans (OB hs)
      rw [E1, E2, h32]
      rw [E2] at K4
      have K3 := K4
      clear OO OR OB TL E1 E2 CC h32 hs K4
      have gr := grs
      have hk := K3.out
      have hat := Hat.out
      have hne := Hne.out
      have hz := Hz.out
      clear K3 Hat Hne Hz Gr' grs HSt HWk
      have Hk := Lib.hid hk
      have hw7 := gr.w7
      have hd8 := gr.d8
      have CNm := Lib.hid (ks_nums hk gr)
      obtain ⟨g1, g2, g3⟩ := hk.gat (g := gb) (l := l) (d := (D : Int)) (c := c) (t := 24) (f := (0, 0)) (by simp)
      have HWk := Lib.hid (fun V => wakesStp_any V)
      have Hat := Lib.hid hat
      have Hne := Lib.hid hne
      clear hk hat hne
      go_wp2_with fail
      (with_reducible refine CNm.out.mono ?_); rintro e w1 ⟨gn, cn, cur, rfl, k1, hcur⟩
      have hcell : ∀ k, k < W → w1.cell? ⟨gn, k, none⟩ = some (.int .i64 (plN l (D : Int) c (ρ : Int) (k : Int))) := fun k hk => (cell_of_row w1 gn k _ _ _ (k1.kx.kp _ (List.mem_cons_self ..)).1).trans (hcur k hk)
      have Hcell := Lib.hid hcell
      have K1 := Lib.hid k1
      obtain ⟨g4, g5, g6⟩ := k1.gat (g := gb) (l := l) (d := (D : Int)) (c := c) (t := 24) (f := (0, 0)) (by simp)
      clear k1 hcur hcell CNm g1 g2 g3
      go_upto_block 1 with fail
      refine wp_block ?_
      refine srC _ _ _ _ _ _ _ _ _ _ _ _ _ _ _ _ _ _ _ _ _ _ _ _ _ _ _ _ _ _ _ _ _ _ _ _ _ _ _ _ _ _ _ _ _ _ _ _ _ _ _ _ _ _ _ _ _ _ _ _ _ _ _ _ _ _ _ _ _ _ _ _ _ _ _ _ _ _ _ _ _ _ _ _ _ _ _ _ _ _ _ _ _ _ _ _ _ _ _ _ _ _ _ _ _ _ _ _ _ _ _ _ _ _ _ _ _ _ _ _ _ _ _ _ _ _ _ _ _ _ _ _ _ _ _ _ _ _ _ _ _ _ _ _ _ _ _ _ _ _ _ _ _ _ _ _ _ _ _ _ _ _ _ _ _ _ _ _ _ _ _ _ _ _ _ _ _ _ _ _ _ _ _ _ _ (by omega) Hcell.out Hat.out Hne.out ⟨Nat.zero_le _, rfl, rfl⟩ (fun v26 v27 v164 v165 v166 v167 v168 v169 v170 v171 v172 kk j V2 hI hx => ?_)
      obtain ⟨_, hkk, rfl⟩ := hI
      subst hx
      rw [if_pos hk0] at hkk
      subst hkk
      have CD := Lib.hid (ks_data K1.out gr ρ (by omega) zs.length cz rfl hcz hz)
      have h32 : ((datL zs ρ j).getD kk []).length = 32 := datL_32 hk0
      have hdl := datL_len zs ρ j
      have i0 : (0 : Int) ≤ (kk : Int) := by omega
      have i1 : (kk : Int) < (j : Int) := by omega
      clear gr hz Hat Hne Hcell
      go_wp2_with fail
      (with_reducible refine CD.out.mono ?_); rintro e w3 ⟨A3, c3, rfl, k3⟩
      obtain ⟨bx, ox, rfl⟩ : ∃ bx ox, A3 = some ⟨bx, ox, none⟩ := by
        obtain ⟨b', off, _, _, e, _, _⟩ := (k3.rx (A3, datL zs ρ j) (by simp)).at (k := kk) (by show kk < (datL zs ρ j).length; omega)
        exact ⟨b', off, e⟩
      obtain ⟨A4, c4, z4, r4⟩ := (k3.rx (some ⟨bx, ox, none⟩, datL zs ρ j) (by simp)).cellAt (k := kk) (by show kk < (datL zs ρ j).length; omega)
      dsimp only at z4 r4
      have CS := sameT_any (c := c21) (c' := c4) h32.symm h32.symm (k3.sl (A := A21) (bs := (datL zs ρ j).getD kk []) (by simp)) r4.rdb
      rw [h32] at z4
      have CS := Lib.hid CS
      have F3 := Lib.hid k3.bp.bel
      clear k3 r4 CD K1
      go_wp2_with fail
      (with_reducible refine CS.out.mono ?_); rintro e w5 ⟨rfl, m5, rfl⟩
      have F5 := Lib.hid (F3.out.trans (belowN _ _ m5))
      clear CS F3
      go_wp2_with fail
      (with_reducible refine (HWk.out _).mono ?_); rintro e w6 ⟨rfl, hb6⟩
      have F6 := F5.out.trans (hb6.mono F5.out.size)
      go_wp2_with fail
      exact HQ.out _ _ _ _ _ _ _ _ _ _ _ _ _ _ _ _ _ _ _ _ _ _ _ _ _ _ _ _ _ _ _ _ _ _ _ _ _ _ _ _ _ _ _ _ _ _ _ _ _ _ _ _ _ _ _ _ _ _ _ _ _ _ _ _ _ _ _ _ _ _ _ _ _ _ _ _ _ _ _ _ _ _ _ _ _ _ _ _ _ _ _ _ _ _ _ _ _ _ _ _ _ _ _ _ _ _ _ _ _ _ _ _ _ _ _ _ _ _ _ _ _ _ _ _ _ _ _ _ _ _ _ _ _ _ _ _ _ _ _ _ _ _ _ _ _ _ _ _ _ _ _ _ _ _ _ _ _ _ _ _ _ _ _ _ _ _ _ _ _ _ _ _ _ _ _ _ _ _ _ _ _ _ _ _ _ _ _ _ _ F6
    | false =>
      rw [hs] at hlook
      obtain ⟨R1, R2⟩ := OR hs
      cases hcn : (roTake l (D : Int) c (ρ : Int) (ssL N lv (36 + ρ) D)).isSome with
      | true =>
        rw [hcn] at CC TL
        rw [if_pos rfl] at TL
        rw [TL.1] at R1 R2
        rw [if_neg (by simp), TL.2] at R2
        rw [R1, R2, h32]
        rw [R2] at K4
        have F4' := Lib.hid K4.out.bp.bel
        clear OO OR OB TL R1 R2 h32 hs hcn
        go_wp2_with fail
        (with_reducible refine CC.out.mono ?_); rintro e w5 ⟨rfl, hb5⟩
        have K3 := Lib.hid (K4.out.below hb5)
        clear hb5 K4 CC hlook
        have gr := grs
        have hk := K3.out
        have hat := Hat.out
        have hne := Hne.out
        have hz := Hz.out
        clear K3 Hat Hne Hz Gr' grs HSt HWk
        have Hk := Lib.hid hk
        have hw7 := gr.w7
        have hd8 := gr.d8
        have CNm := Lib.hid (ks_nums hk gr)
        obtain ⟨g1, g2, g3⟩ := hk.gat (g := gb) (l := l) (d := (D : Int)) (c := c) (t := 24) (f := (0, 0)) (by simp)
        have HWk := Lib.hid (fun V => wakesStp_any V)
        have Hat := Lib.hid hat
        have Hne := Lib.hid hne
        clear hk hat hne
        go_wp2_with fail
        (with_reducible refine CNm.out.mono ?_); rintro e w1 ⟨gn, cn, cur, rfl, k1, hcur⟩
        have hcell : ∀ k, k < W → w1.cell? ⟨gn, k, none⟩ = some (.int .i64 (plN l (D : Int) c (ρ : Int) (k : Int))) := fun k hk => (cell_of_row w1 gn k _ _ _ (k1.kx.kp _ (List.mem_cons_self ..)).1).trans (hcur k hk)
        have Hcell := Lib.hid hcell
        have K1 := Lib.hid k1
        obtain ⟨g4, g5, g6⟩ := k1.gat (g := gb) (l := l) (d := (D : Int)) (c := c) (t := 24) (f := (0, 0)) (by simp)
        clear k1 hcur hcell CNm g1 g2 g3
        go_upto_block 1 with fail
        refine wp_block ?_
        refine srC _ _ _ _ _ _ _ _ _ _ _ _ _ _ _ _ _ _ _ _ _ _ _ _ _ _ _ _ _ _ _ _ _ _ _ _ _ _ _ _ _ _ _ _ _ _ _ _ _ _ _ _ _ _ _ _ _ _ _ _ _ _ _ _ _ _ _ _ _ _ _ _ _ _ _ _ _ _ _ _ _ _ _ _ _ _ _ _ _ _ _ _ _ _ _ _ _ _ _ _ _ _ _ _ _ _ _ _ _ _ _ _ _ _ _ _ _ _ _ _ _ _ _ _ _ _ _ _ _ _ _ _ _ _ _ _ _ _ _ _ _ _ _ _ _ _ _ _ _ _ _ _ _ _ _ _ _ _ _ _ _ _ _ _ _ _ _ _ _ _ _ _ _ _ _ _ _ _ _ _ _ _ _ _ _ (by omega) Hcell.out Hat.out Hne.out ⟨Nat.zero_le _, rfl, rfl⟩ (fun v26 v27 v164 v165 v166 v167 v168 v169 v170 v171 v172 kk j V2 hI hx => ?_)
        obtain ⟨_, hkk, rfl⟩ := hI
        subst hx
        rw [if_pos hk0] at hkk
        subst hkk
        have CD := Lib.hid (ks_data K1.out gr ρ (by omega) zs.length cz rfl hcz hz)
        have h32 : ((datL zs ρ j).getD kk []).length = 32 := datL_32 hk0
        have hdl := datL_len zs ρ j
        have i0 : (0 : Int) ≤ (kk : Int) := by omega
        have i1 : (kk : Int) < (j : Int) := by omega
        clear gr hz Hat Hne Hcell
        go_wp2_with fail
        (with_reducible refine CD.out.mono ?_); rintro e w3 ⟨A3, c3, rfl, k3⟩
        obtain ⟨bx, ox, rfl⟩ : ∃ bx ox, A3 = some ⟨bx, ox, none⟩ := by
          obtain ⟨b', off, _, _, e, _, _⟩ := (k3.rx (A3, datL zs ρ j) (by simp)).at (k := kk) (by show kk < (datL zs ρ j).length; omega)
          exact ⟨b', off, e⟩
        obtain ⟨A4, c4, z4, r4⟩ := (k3.rx (some ⟨bx, ox, none⟩, datL zs ρ j) (by simp)).cellAt (k := kk) (by show kk < (datL zs ρ j).length; omega)
        dsimp only at z4 r4
        have CS := sameT_any (c := c21) (c' := c4) h32.symm h32.symm (k3.sl (A := A21) (bs := (datL zs ρ j).getD kk []) (by simp)) r4.rdb
        rw [h32] at z4
        have CS := Lib.hid CS
        have F3 := Lib.hid k3.bp.bel
        clear k3 r4 CD K1
        go_wp2_with fail
        (with_reducible refine CS.out.mono ?_); rintro e w5 ⟨rfl, m5, rfl⟩
        have F5 := Lib.hid (F3.out.trans (belowN _ _ m5))
        clear CS F3
        go_wp2_with fail
        (with_reducible refine (HWk.out _).mono ?_); rintro e w6 ⟨rfl, hb6⟩
        have F6 := F5.out.trans (hb6.mono F5.out.size)
        go_wp2_with fail
        exact HQ.out _ _ _ _ _ _ _ _ _ _ _ _ _ _ _ _ _ _ _ _ _ _ _ _ _ _ _ _ _ _ _ _ _ _ _ _ _ _ _ _ _ _ _ _ _ _ _ _ _ _ _ _ _ _ _ _ _ _ _ _ _ _ _ _ _ _ _ _ _ _ _ _ _ _ _ _ _ _ _ _ _ _ _ _ _ _ _ _ _ _ _ _ _ _ _ _ _ _ _ _ _ _ _ _ _ _ _ _ _ _ _ _ _ _ _ _ _ _ _ _ _ _ _ _ _ _ _ _ _ _ _ _ _ _ _ _ _ _ _ _ _ _ _ _ _ _ _ _ _ _ _ _ _ _ _ _ _ _ _ _ _ _ _ _ _ _ _ _ _ _ _ _ _ _ _ _ _ _ _ _ _ _ _ _ _ _ _ _ _ F6
      | false =>
        rw [hcn] at CC TL
        rw [if_neg (by simp)] at TL
        rw [TL.1] at R1 R2
        rw [if_pos (by decide)] at R2
        rw [R1, R2]
        clear OO OR OB TL R1 R2 h32 hs hcn K4 F4
        have F4 := F5
        clear F5
        go_wp2_with fail
        (with_reducible refine CC.out.mono ?_); rintro e w5 ⟨rfl, hb5⟩
        have F5 := Lib.hid (F4.out.trans (hb5.mono F4.out.size))
        clear hb5
        go_wp2_with fail
        (with_reducible refine (HWk.out _).mono ?_); rintro e w6 ⟨rfl, hb6⟩
        have F6 := F5.out.trans (hb6.mono F5.out.size)
        go_wp2_with fail
        exact HQ.out _ _ _ _ _ _ _ _ _ _ _ _ _ _ _ _ _ _ _ _ _ _ _ _ _ _ _ _ _ _ _ _ _ _ _ _ _ _ _ _ _ _ _ _ _ _ _ _ _ _ _ _ _ _ _ _ _ _ _ _ _ _ _ _ _ _ _ _ _ _ _ _ _ _ _ _ _ _ _ _ _ _ _ _ _ _ _ _ _ _ _ _ _ _ _ _ _ _ _ _ _ _ _ _ _ _ _ _ _ _ _ _ _ _ _ _ _ _ _ _ _ _ _ _ _ _ _ _ _ _ _ _ _ _ _ _ _ _ _ _ _ _ _ _ _ _ _ _ _ _ _ _ _ _ _ _ _ _ _ _ _ _ _ _ _ _ _ _ _ _ _ _ _ _ _ _ _ _ _ _ _ _ _ _ _ _ _ _ _ F6
end Go.Proofs.Ytpaegibaikpikaa
end
section
set_option linter.unusedVariables false
set_option linter.unusedSimpArgs false
namespace Go.Proofs.Ytpaegibaikpikaa
open Go.RowKit

section
variable {W w : World} {b : Nat} {H : BH} {N : Bch} {K : List (Nat × Obj)} {R : List (Option Addr × List (List UInt8))} {S : List (Option Addr × List UInt8)} (h : KS W w b H N K R S)
include h
theorem ks_dataB {n l c r : Int} {D F Wd : Nat} (gr : Gr n l c r D F Wd) (ρ : Nat) (hρ : ρ ≤ 1000) {A : Option Addr} {zs : List Int} (m cp : Nat) (hm : m = zs.length) (hcp : zs.length ≤ cp) (hz : RdZ W W.heap.size A zs) :
    Calls Try.prog 17 #[.agg #[.int .i64 l, .int .i64 (D : Int), .int .i64 c], .int .i64 (ρ : Int), .slice A m cp] w fun e w' => ∃ A' c', e = .returned (.slice A' Wd c') ∧ KS W w' b H N K ((A', datL zs ρ Wd) :: R) S ∧ Below w.heap.size w w' := by
  refine (data_any gr ρ hρ A zs m cp w hm hcp (h.rdz hz)).mono ?_
  rintro e w' ⟨v, rfl, ho, hb⟩
  obtain ⟨A', c', rfl, k⟩ := h.owv hb ho (by rw [datL_len]; have := gr.w7; omega)
  rw [datL_len]
  exact ⟨A', c', rfl, k, hb⟩
theorem ks_sameRB {A A' : Option Addr} {ra rb : List (List UInt8)} (n n' c c' : Nat) (hn : ra.length = n) (hn' : rb.length = n') (hr : (A, ra) ∈ R) (hr' : (A', rb) ∈ R) :
    Calls Try.prog 19 #[.slice A n c, .slice A' n' c'] w fun e w' => e = .returned (.bool (decide (ra = rb))) ∧ KS W w' b H N K R S ∧ Below w.heap.size w w' := by
  refine (sameS_any A A' ra rb n n' c c' w hn hn' (h.rd hr) (h.rd hr')).mono ?_
  rintro e w' ⟨rfl, hb⟩
  exact ⟨rfl, h.below hb, hb⟩
end
set_option maxRecDepth 100000 in
set_option maxHeartbeats 3200000 in
theorem srSw {W0 : World} {n l c r r1 E : Int} {D F W m b gb gl cz mb c19 nL : Nat} {A A19 : Option Addr} {zs : List Int} {lv : List Bool} {H : BH} {N : Bch} {Lr : List (List UInt8)} {w : World} (u0 u1 u3 u4 u6 u7 u8 u9 u10 u11 u12 u13 u14 u16 u17 u21 u22 u23 u24 u25 u26 u27 u28 u29 u30 u31 u32 u33 u34 u35 u36 u37 u38 u39 u40 u41 u42 u43 u44 u45 u46 u47 u48 u49 u50 u51 u52 u53 u54 u55 u56 u57 u58 u59 u60 u61 u62 u63 u64 u65 u66 u67 u68 u69 u70 u71 u72 u73 u74 u75 u76 u77 u78 u79 u80 u81 u82 u83 u84 u85 u86 u87 u88 u89 u90 u91 u92 u93 u94 u95 u96 u97 u98 u99 u100 u101 u102 u103 u104 u105 u106 u107 u108 u109 u110 u111 u112 u113 u114 u115 u116 u117 u118 u119 u120 u121 u122 u123 u124 u125 u126 u127 u128 u129 u130 u131 u132 u133 u134 u135 u136 u137 u138 u139 u140 u141 u142 u143 u144 u145 u146 u147 u148 u149 u150 u151 u152 u153 u154 u155 u156 u157 u158 u159 u160 u161 u162 u163 u164 u165 u166 u167 u168 u169 u170 u171 u172 u173 u174 u175 u176 u177 u178 u179 u180 u181 u182 u183 u184 u185 u186 u187 u188 : Value) (K : Act → World → Prop) (Q0 : Exit → Act → World → Prop) (gr : Gr n l c r D F W) (hm : m ≤ 8) (hDm : D ≤ m) (hz : RdZ W0 W0.heap.size A zs) (hcz : zs.length ≤ cz) (hst : Std N m D (rowL l c D W zs)) (hr1 : -1 ≤ r1 ∧ r1 ≤ 16) (hnL : Lr.length = nL) (hE : (¬ (0 ≤ r1 ∧ r1 < 16) ∧ E = 1 ∧ Lr = []) ∨ (∃ ρ : Nat, ρ < 16 ∧ r1 = (ρ : Int) ∧ (((roTake l (D : Int) c (ρ : Int) (ssL N lv (36 + ρ) D)).isSome = true ∧ E = 0 ∧ Lr = datL zs ρ W) ∨ ((roTake l (D : Int) c (ρ : Int) (ssL N lv (36 + ρ) D)).isSome = false ∧ E = 7 ∧ Lr = [])))) (hk : KS W0 w b H N [(gl, Obj.cells (lv.map Value.bool).toArray 4 (0, 0)), (gb, Obj.cells #[.int .i64 l, .int .i64 (D : Int), .int .i64 c] 24 (0, 0))] [(A19, Lr)] []) (hS : SetI w mb (gonL N lv D))
    (hK : ∀ (v14 v68 v69 v70 v71 v72 v73 v74 v75 v76 v77 v78 v79 v80 v81 v82 v83 v84 v85 v86 v87 v88 v89 v90 v91 v92 v93 v94 v95 v96 v97 v98 v99 v100 v101 v102 v103 v104 v105 : Value) (V : World), KS W0 V b H N [(gl, Obj.cells (lv.map Value.bool).toArray 4 (0, 0)), (gb, Obj.cells #[.int .i64 l, .int .i64 (D : Int), .int .i64 c] 24 (0, 0))] [] [] → SetI V mb (gonL N lv D) → K ⟨List.toArray (u0 :: u1 :: (.slice A zs.length cz) :: u3 :: u4 :: (.int .i64 r1) :: u6 :: u7 :: u8 :: u9 :: u10 :: u11 :: u12 :: u13 :: v14 :: (.pointer (some ⟨gb, 0, none⟩)) :: u16 :: u17 :: (.map (some mb)) :: (.slice A19 nL c19) :: (.int .i64 E) :: u21 :: u22 :: u23 :: u24 :: u25 :: u26 :: u27 :: u28 :: u29 :: u30 :: u31 :: u32 :: u33 :: u34 :: u35 :: u36 :: u37 :: u38 :: u39 :: u40 :: u41 :: u42 :: u43 :: u44 :: u45 :: u46 :: u47 :: u48 :: u49 :: u50 :: u51 :: u52 :: u53 :: u54 :: u55 :: u56 :: u57 :: u58 :: u59 :: u60 :: u61 :: u62 :: u63 :: u64 :: u65 :: u66 :: u67 :: v68 :: v69 :: v70 :: v71 :: v72 :: v73 :: v74 :: v75 :: v76 :: v77 :: v78 :: v79 :: v80 :: v81 :: v82 :: v83 :: v84 :: v85 :: v86 :: v87 :: v88 :: v89 :: v90 :: v91 :: v92 :: v93 :: v94 :: v95 :: v96 :: v97 :: v98 :: v99 :: v100 :: v101 :: v102 :: v103 :: v104 :: v105 :: u106 :: u107 :: u108 :: u109 :: u110 :: u111 :: u112 :: u113 :: u114 :: u115 :: u116 :: u117 :: u118 :: u119 :: u120 :: u121 :: u122 :: u123 :: u124 :: u125 :: u126 :: u127 :: u128 :: u129 :: u130 :: u131 :: u132 :: u133 :: u134 :: u135 :: u136 :: u137 :: u138 :: u139 :: u140 :: u141 :: u142 :: u143 :: u144 :: u145 :: u146 :: u147 :: u148 :: u149 :: u150 :: u151 :: u152 :: u153 :: u154 :: u155 :: u156 :: u157 :: u158 :: u159 :: u160 :: u161 :: u162 :: u163 :: u164 :: u165 :: u166 :: u167 :: u168 :: u169 :: u170 :: u171 :: u172 :: u173 :: u174 :: u175 :: u176 :: u177 :: u178 :: u179 :: u180 :: u181 :: u182 :: u183 :: u184 :: u185 :: u186 :: u187 :: u188 :: []), []⟩ V) :
    Code.wp Try.prog (sub [1, 1, 1, 1, 1, 1, 1, 1, 1, 1, 0] codeSR) (Exit.then K Q0) ⟨List.toArray (u0 :: u1 :: (.slice A zs.length cz) :: u3 :: u4 :: (.int .i64 r1) :: u6 :: u7 :: u8 :: u9 :: u10 :: u11 :: u12 :: u13 :: u14 :: (.pointer (some ⟨gb, 0, none⟩)) :: u16 :: u17 :: (.map (some mb)) :: (.slice A19 nL c19) :: (.int .i64 E) :: u21 :: u22 :: u23 :: u24 :: u25 :: u26 :: u27 :: u28 :: u29 :: u30 :: u31 :: u32 :: u33 :: u34 :: u35 :: u36 :: u37 :: u38 :: u39 :: u40 :: u41 :: u42 :: u43 :: u44 :: u45 :: u46 :: u47 :: u48 :: u49 :: u50 :: u51 :: u52 :: u53 :: u54 :: u55 :: u56 :: u57 :: u58 :: u59 :: u60 :: u61 :: u62 :: u63 :: u64 :: u65 :: u66 :: u67 :: u68 :: u69 :: u70 :: u71 :: u72 :: u73 :: u74 :: u75 :: u76 :: u77 :: u78 :: u79 :: u80 :: u81 :: u82 :: u83 :: u84 :: u85 :: u86 :: u87 :: u88 :: u89 :: u90 :: u91 :: u92 :: u93 :: u94 :: u95 :: u96 :: u97 :: u98 :: u99 :: u100 :: u101 :: u102 :: u103 :: u104 :: u105 :: u106 :: u107 :: u108 :: u109 :: u110 :: u111 :: u112 :: u113 :: u114 :: u115 :: u116 :: u117 :: u118 :: u119 :: u120 :: u121 :: u122 :: u123 :: u124 :: u125 :: u126 :: u127 :: u128 :: u129 :: u130 :: u131 :: u132 :: u133 :: u134 :: u135 :: u136 :: u137 :: u138 :: u139 :: u140 :: u141 :: u142 :: u143 :: u144 :: u145 :: u146 :: u147 :: u148 :: u149 :: u150 :: u151 :: u152 :: u153 :: u154 :: u155 :: u156 :: u157 :: u158 :: u159 :: u160 :: u161 :: u162 :: u163 :: u164 :: u165 :: u166 :: u167 :: u168 :: u169 :: u170 :: u171 :: u172 :: u173 :: u174 :: u175 :: u176 :: u177 :: u178 :: u179 :: u180 :: u181 :: u182 :: u183 :: u184 :: u185 :: u186 :: u187 :: u188 :: []), []⟩ w := by
  have HK := Lib.hid hK
  clear hK
  conv => arg 2; whnf
  have Hk := Lib.hid hk
  have HS := Lib.hid hS
  have hd8 := gr.d8
  have hw7 := gr.w7
  obtain ⟨g1, g2, g3⟩ := hk.gat (g := gb) (l := l) (d := (D : Int)) (c := c) (t := 24) (f := (0, 0)) (by simp)
  have hl0 : ([] : List (List UInt8)).length = 0 := rfl
  have CL : ∀ {V : World}, KS W0 V b H N [(gl, Obj.cells (lv.map Value.bool).toArray 4 (0, 0)), (gb, Obj.cells #[.int .i64 l, .int .i64 (D : Int), .int .i64 c] 24 (0, 0))] [(A19, Lr)] [] → KS W0 V b H N [(gl, Obj.cells (lv.map Value.bool).toArray 4 (0, 0)), (gb, Obj.cells #[.int .i64 l, .int .i64 (D : Int), .int .i64 c] 24 (0, 0))] [] [] := fun k => k.less (fun _ h => h) (fun _ h => absurd h (by simp)) (fun _ h => h)
  rcases hE with ⟨hr, rfl, rfl⟩ | ⟨ρ, hρ, rfl, ⟨hsome, rfl, rfl⟩ | ⟨hsome, rfl, rfl⟩⟩
  · obtain rfl : 0 = nL := hnL
    have Kf := Lib.hid (CL hk)
    clear hk hS CL hst gr hz
    by_cases h0 : r1 < 0
    · clear hr
      go_wp2_with fail
      exact HK.out _ _ _ _ _ _ _ _ _ _ _ _ _ _ _ _ _ _ _ _ _ _ _ _ _ _ _ _ _ _ _ _ _ _ _ _ _ _ _ _ Kf.out HS.out
    · have h16 : ¬ r1 < 16 := by omega
      clear hr
      go_wp2_with fail
      exact HK.out _ _ _ _ _ _ _ _ _ _ _ _ _ _ _ _ _ _ _ _ _ _ _ _ _ _ _ _ _ _ _ _ _ _ _ _ _ _ _ _ Kf.out HS.out
  · have i0 : (0 : Int) ≤ (ρ : Int) := by omega
    have i1 : (ρ : Int) < 16 := by omega
    have CC := Lib.hid (can_any l c (ρ : Int) D mb _ w hS (by omega) gr.l64 gr.c64 (by omega))
    rw [can_some hst (gr.at hρ) (datL_len zs ρ W) datL_mem rfl, hsome] at CC
    rw [datL_len] at hnL
    subst hnL
    have CDf := Lib.hid (fun V (hb : Below w.heap.size w V) => ks_dataB (Hk.out.below hb) gr ρ (by omega) zs.length cz rfl hcz hz)
    have hdl := datL_len zs ρ W
    clear hk hS CL hst gr hz hsome
    go_wp2_with fail
    (with_reducible refine CC.out.mono ?_); rintro e w1 ⟨rfl, hb1⟩
    have S1 := Lib.hid (HS.out.below hb1)
    have CD := Lib.hid (CDf.out w1 hb1)
    obtain ⟨g4, g5, g6⟩ := (Hk.out.below hb1).gat (g := gb) (l := l) (d := (D : Int)) (c := c) (t := 24) (f := (0, 0)) (by simp)
    have Hb1 := Lib.hid hb1
    try rw [hdl]
    clear hb1 g1 g2 g3 CDf CC
    go_wp2_with fail
    (with_reducible refine CD.out.mono ?_); rintro e w2 ⟨A2, c2, rfl, k2, hb2⟩
    have CS := ks_sameRB k2 (A := A19) (A' := A2) W W c19 c2 hdl hdl (by simp) (by simp)
    rw [decide_eq_true rfl] at CS
    have CS := Lib.hid CS
    have S2 := Lib.hid (S1.out.below hb2)
    clear k2 CD hb2
    go_wp2_with fail
    (with_reducible refine CS.out.mono ?_); rintro e w3 ⟨rfl, k3, hb3⟩
    have K3 := Lib.hid (k3.less (K' := [(gl, Obj.cells (lv.map Value.bool).toArray 4 (0, 0)), (gb, Obj.cells #[.int .i64 l, .int .i64 (D : Int), .int .i64 c] 24 (0, 0))]) (R' := []) (S' := []) (fun _ h => h) (fun _ h => absurd h (by simp)) (fun _ h => h))
    have S3 := Lib.hid (S2.out.below hb3)
    clear k3 hb3
    go_wp2_with fail
    exact HK.out _ _ _ _ _ _ _ _ _ _ _ _ _ _ _ _ _ _ _ _ _ _ _ _ _ _ _ _ _ _ _ _ _ _ _ _ _ _ _ _ K3.out S3.out
  · have i0 : (0 : Int) ≤ (ρ : Int) := by omega
    have i1 : (ρ : Int) < 16 := by omega
    have CC := Lib.hid (can_any l c (ρ : Int) D mb _ w hS (by omega) gr.l64 gr.c64 (by omega))
    rw [can_some hst (gr.at hρ) (datL_len zs ρ W) datL_mem rfl, hsome] at CC
    obtain rfl : 0 = nL := hnL
    have CL' := Lib.hid (fun V (k : KS W0 V b H N [(gl, Obj.cells (lv.map Value.bool).toArray 4 (0, 0)), (gb, Obj.cells #[.int .i64 l, .int .i64 (D : Int), .int .i64 c] 24 (0, 0))] [(A19, [])] []) => CL k)
    clear hk hS CL hst gr hz hsome
    go_wp2_with fail
    (with_reducible refine CC.out.mono ?_); rintro e w1 ⟨rfl, hb1⟩
    have S1 := Lib.hid (HS.out.below hb1)
    have K1 := Lib.hid (CL'.out _ (Hk.out.below hb1))
    clear hb1
    go_wp2_with fail
    exact HK.out _ _ _ _ _ _ _ _ _ _ _ _ _ _ _ _ _ _ _ _ _ _ _ _ _ _ _ _ _ _ _ _ _ _ _ _ _ _ _ _ K1.out S1.out
set_option maxRecDepth 100000 in
set_option maxHeartbeats 3200000 in
theorem sr10 {W0 : World} {n l c r r0 at0 : Int} {D F W m b gb gl cz mb : Nat} {A : Option Addr} {zs : List Int} {lv : List Bool} {H : BH} {N : Bch} {w : World} (u0 u1 u3 u4 u7 u8 u9 u10 u11 u12 u13 u14 u19 u20 u21 u22 u23 u24 u25 u26 u27 u28 u29 u30 u31 u32 u33 u34 u35 u36 u37 u38 u39 u40 u41 u42 u43 u44 u45 u46 u47 u48 u49 u50 u51 u52 u53 u54 u55 u56 u57 u58 u59 u60 u61 u62 u63 u64 u65 u66 u67 u68 u69 u70 u71 u72 u73 u74 u75 u76 u77 u78 u79 u80 u81 u82 u83 u84 u85 u86 u87 u88 u89 u90 u91 u92 u93 u94 u95 u96 u97 u98 u99 u100 u101 u102 u103 u104 u105 u106 u107 u108 u109 u110 u111 u112 u113 u114 u115 u116 u117 u118 u119 u120 u121 u122 u123 u124 u125 u126 u127 u128 u129 u130 u131 u132 u133 u134 u135 u136 u137 u138 u139 u140 u141 u142 u143 u144 u145 u146 u147 u148 u149 u150 u151 u152 u153 u154 u155 u156 u157 u158 u159 u160 u161 u162 u163 u164 u165 u166 u167 u168 u169 u170 u171 u172 u173 u174 u175 u176 u177 u178 u179 u180 u181 u182 u183 u184 u185 u186 u187 u188 : Value) (Q : Exit → Act → World → Prop) (gr : Gr n l c r D F W) (hm : m ≤ 8) (hDm : D ≤ m) (hz : RdZ W0 W0.heap.size A zs) (hcz : zs.length ≤ cz) (hll : lv.length = m) (hst : Std N m D (rowL l c D W zs)) (hat0 : (-9223372036854775808 ≤ at0 ∧ at0 ≤ 9223372036854775807)) (hr0 : (-9223372036854775808 ≤ r0 ∧ r0 ≤ 9223372036854775807)) (hk : KS W0 w b H N [(gl, Obj.cells (lv.map Value.bool).toArray 4 (0, 0)), (gb, Obj.cells #[.int .i64 l, .int .i64 (D : Int), .int .i64 c] 24 (0, 0))] [] []) (hS : SetI w mb (gonL N lv D))
    (hQ : ∀ (v0 v1 v2 v3 v4 v5 v6 v7 v8 v9 v10 v11 v12 v13 v15 v16 v17 v18 v19 v20 v21 v22 v23 v24 v25 v26 v27 v28 v29 v30 v31 v32 v33 v34 v35 v36 v37 v38 v39 v40 v41 v42 v43 v44 v45 v46 v47 v48 v49 v50 v51 v52 v53 v54 v55 v56 v57 v58 v59 v60 v61 v62 v63 v64 v65 v66 v67 v68 v69 v70 v71 v72 v73 v74 v75 v76 v77 v78 v79 v80 v81 v82 v83 v84 v85 v86 v87 v88 v89 v90 v91 v92 v93 v94 v95 v96 v97 v98 v99 v100 v101 v102 v103 v104 v105 v106 v107 v108 v109 v110 v111 v112 v113 v114 v115 v116 v117 v118 v119 v120 v121 v122 v123 v124 v125 v126 v127 v128 v129 v130 v131 v132 v133 v134 v135 v136 v137 v138 v139 v140 v141 v142 v143 v144 v145 v146 v147 v148 v149 v150 v151 v152 v153 v154 v155 v156 v157 v158 v159 v160 v161 v162 v163 v164 v165 v166 v167 v168 v169 v170 v171 v172 v173 v174 v175 v176 v177 v178 v179 v180 v181 v182 v183 v184 v185 v186 v187 v188 : Value) (V : World), Below W0.heap.size W0 V → Q .ret ⟨List.toArray (v0 :: v1 :: v2 :: v3 :: v4 :: v5 :: v6 :: v7 :: v8 :: v9 :: v10 :: v11 :: v12 :: v13 :: (.bool true) :: v15 :: v16 :: v17 :: v18 :: v19 :: v20 :: v21 :: v22 :: v23 :: v24 :: v25 :: v26 :: v27 :: v28 :: v29 :: v30 :: v31 :: v32 :: v33 :: v34 :: v35 :: v36 :: v37 :: v38 :: v39 :: v40 :: v41 :: v42 :: v43 :: v44 :: v45 :: v46 :: v47 :: v48 :: v49 :: v50 :: v51 :: v52 :: v53 :: v54 :: v55 :: v56 :: v57 :: v58 :: v59 :: v60 :: v61 :: v62 :: v63 :: v64 :: v65 :: v66 :: v67 :: v68 :: v69 :: v70 :: v71 :: v72 :: v73 :: v74 :: v75 :: v76 :: v77 :: v78 :: v79 :: v80 :: v81 :: v82 :: v83 :: v84 :: v85 :: v86 :: v87 :: v88 :: v89 :: v90 :: v91 :: v92 :: v93 :: v94 :: v95 :: v96 :: v97 :: v98 :: v99 :: v100 :: v101 :: v102 :: v103 :: v104 :: v105 :: v106 :: v107 :: v108 :: v109 :: v110 :: v111 :: v112 :: v113 :: v114 :: v115 :: v116 :: v117 :: v118 :: v119 :: v120 :: v121 :: v122 :: v123 :: v124 :: v125 :: v126 :: v127 :: v128 :: v129 :: v130 :: v131 :: v132 :: v133 :: v134 :: v135 :: v136 :: v137 :: v138 :: v139 :: v140 :: v141 :: v142 :: v143 :: v144 :: v145 :: v146 :: v147 :: v148 :: v149 :: v150 :: v151 :: v152 :: v153 :: v154 :: v155 :: v156 :: v157 :: v158 :: v159 :: v160 :: v161 :: v162 :: v163 :: v164 :: v165 :: v166 :: v167 :: v168 :: v169 :: v170 :: v171 :: v172 :: v173 :: v174 :: v175 :: v176 :: v177 :: v178 :: v179 :: v180 :: v181 :: v182 :: v183 :: v184 :: v185 :: v186 :: v187 :: v188 :: []), []⟩ V) :
    Code.wp Try.prog (sub [1, 1, 1, 1, 1, 1, 1, 1] codeSR) Q ⟨List.toArray (u0 :: u1 :: (.slice A zs.length cz) :: u3 :: u4 :: (.int .i64 r0) :: (.int .i64 at0) :: u7 :: u8 :: u9 :: u10 :: u11 :: u12 :: u13 :: u14 :: (.pointer (some ⟨gb, 0, none⟩)) :: (.pointer (some ⟨b, 0, none⟩)) :: (.slice (some ⟨gl, 0, none⟩) m m) :: (.map (some mb)) :: u19 :: u20 :: u21 :: u22 :: u23 :: u24 :: u25 :: u26 :: u27 :: u28 :: u29 :: u30 :: u31 :: u32 :: u33 :: u34 :: u35 :: u36 :: u37 :: u38 :: u39 :: u40 :: u41 :: u42 :: u43 :: u44 :: u45 :: u46 :: u47 :: u48 :: u49 :: u50 :: u51 :: u52 :: u53 :: u54 :: u55 :: u56 :: u57 :: u58 :: u59 :: u60 :: u61 :: u62 :: u63 :: u64 :: u65 :: u66 :: u67 :: u68 :: u69 :: u70 :: u71 :: u72 :: u73 :: u74 :: u75 :: u76 :: u77 :: u78 :: u79 :: u80 :: u81 :: u82 :: u83 :: u84 :: u85 :: u86 :: u87 :: u88 :: u89 :: u90 :: u91 :: u92 :: u93 :: u94 :: u95 :: u96 :: u97 :: u98 :: u99 :: u100 :: u101 :: u102 :: u103 :: u104 :: u105 :: u106 :: u107 :: u108 :: u109 :: u110 :: u111 :: u112 :: u113 :: u114 :: u115 :: u116 :: u117 :: u118 :: u119 :: u120 :: u121 :: u122 :: u123 :: u124 :: u125 :: u126 :: u127 :: u128 :: u129 :: u130 :: u131 :: u132 :: u133 :: u134 :: u135 :: u136 :: u137 :: u138 :: u139 :: u140 :: u141 :: u142 :: u143 :: u144 :: u145 :: u146 :: u147 :: u148 :: u149 :: u150 :: u151 :: u152 :: u153 :: u154 :: u155 :: u156 :: u157 :: u158 :: u159 :: u160 :: u161 :: u162 :: u163 :: u164 :: u165 :: u166 :: u167 :: u168 :: u169 :: u170 :: u171 :: u172 :: u173 :: u174 :: u175 :: u176 :: u177 :: u178 :: u179 :: u180 :: u181 :: u182 :: u183 :: u184 :: u185 :: u186 :: u187 :: u188 :: []), []⟩ w := by
  have HQ := Lib.hid hQ
  clear hQ
  conv => arg 2; whnf
  have hd8 := gr.d8
  have CW := Lib.hid (fun V => within_any r0 18 V hr0 (by omega))
  have htb := withinI_bd r0 18 (by omega)
  obtain ⟨r1, hr1e⟩ : ∃ r1, withinI r0 18 - 1 = r1 := ⟨_, rfl⟩
  have hr1 : -1 ≤ r1 ∧ r1 ≤ 16 := by omega
  have CR := ks_read hk lv (some ⟨gl, 0, none⟩) m m hll.symm (hk.lv (g := gl) (t := 4) (f := (0, 0)) (lv := lv) (by simp) rfl (by omega)) l (D : Int) c r1 gr.l64 gr.d64 gr.c64 (by omega)
  have HE := Lib.hid (show (¬ (0 ≤ r1 ∧ r1 < 16) ∧ srdE N lv l (D : Int) c r1 = 1 ∧ srdL N lv l (D : Int) c r1 = []) ∨ (∃ ρ : Nat, ρ < 16 ∧ r1 = (ρ : Int) ∧ (((roTake l (D : Int) c (ρ : Int) (ssL N lv (36 + ρ) D)).isSome = true ∧ srdE N lv l (D : Int) c r1 = 0 ∧ srdL N lv l (D : Int) c r1 = datL zs ρ W) ∨ ((roTake l (D : Int) c (ρ : Int) (ssL N lv (36 + ρ) D)).isSome = false ∧ srdE N lv l (D : Int) c r1 = 7 ∧ srdL N lv l (D : Int) c r1 = []))) from by
    by_cases hin : 0 ≤ r1 ∧ r1 < 16
    · obtain ⟨ρ, rfl⟩ := Int.eq_ofNat_of_zero_le hin.1
      have hρ : ρ < 16 := by omega
      refine .inr ⟨ρ, hρ, rfl, ?_⟩
      have TL := hst.told (gr.at hρ) (datL_len zs ρ W) datL_mem rfl lv
      cases hs : (roTake l (D : Int) c (ρ : Int) (ssL N lv (36 + ρ) D)).isSome with
      | true => rw [hs, if_pos rfl] at TL; exact .inl ⟨rfl, TL⟩
      | false => rw [hs, if_neg (by decide)] at TL; exact .inr ⟨rfl, TL⟩
    · exact .inl ⟨hin, srdE_bad (plOk_no fun h => hin h.2)⟩)
  generalize srdE N lv l (D : Int) c r1 = E at CR HE
  generalize srdL N lv l (D : Int) c r1 = Lr at CR HE
  have CR := Lib.hid CR
  obtain ⟨g1, g2, g3⟩ := hk.gat (g := gb) (l := l) (d := (D : Int)) (c := c) (t := 24) (f := (0, 0)) (by simp)
  have HS := Lib.hid hS
  have Gr' := Lib.hid gr
  have Hz := Lib.hid hz
  have HSt := Lib.hid hst
  generalize withinI r0 18 = t1 at *
  have ew : IntKind.i64.wrap (t1 - 1) = t1 - 1 := by rw [IntKind.wrap_i64]; omega
  clear hk hS hst gr hz
  go_wp2_with fail
  (with_reducible refine (CW.out _).mono ?_); rintro e w2 ⟨rfl, rfl⟩
  go_wp2_with fail
  try rw [hr1e]
  (with_reducible refine CR.out.mono ?_); rintro e w3 ⟨A19, c19, rfl, k3, hb3⟩
  have K3 := Lib.hid k3
  have S3 := Lib.hid (HS.out.below hb3)
  clear k3 hb3 CR HS g1 g2 g3
  go_upto_block 0 with fail
  refine srSw _ _ _ _ _ _ _ _ _ _ _ _ _ _ _ _ _ _ _ _ _ _ _ _ _ _ _ _ _ _ _ _ _ _ _ _ _ _ _ _ _ _ _ _ _ _ _ _ _ _ _ _ _ _ _ _ _ _ _ _ _ _ _ _ _ _ _ _ _ _ _ _ _ _ _ _ _ _ _ _ _ _ _ _ _ _ _ _ _ _ _ _ _ _ _ _ _ _ _ _ _ _ _ _ _ _ _ _ _ _ _ _ _ _ _ _ _ _ _ _ _ _ _ _ _ _ _ _ _ _ _ _ _ _ _ _ _ _ _ _ _ _ _ _ _ _ _ _ _ _ _ _ _ _ _ _ _ _ _ _ _ _ _ _ _ _ _ _ _ _ _ _ _ _ _ _ _ _ _ _ _ _ _ _ _ Gr'.out hm hDm Hz.out hcz HSt.out hr1 rfl HE.out K3.out S3.out (fun v14 v68 v69 v70 v71 v72 v73 v74 v75 v76 v77 v78 v79 v80 v81 v82 v83 v84 v85 v86 v87 v88 v89 v90 v91 v92 v93 v94 v95 v96 v97 v98 v99 v100 v101 v102 v103 v104 v105 V4 k4 s4 => ?_)
  have K4 := Lib.hid k4
  have S4 := Lib.hid s4
  clear k4 s4 K3 S3
  refine ‹∀ (a : Act) (w : World), Code.wp Try.prog _ Q a w → _› _ _ ?_
  exact sr20 _ _ _ _ _ _ _ _ _ _ _ _ _ _ _ _ _ _ _ _ _ _ _ _ _ _ _ _ _ _ _ _ _ _ _ _ _ _ _ _ _ _ _ _ _ _ _ _ _ _ _ _ _ _ _ _ _ _ _ _ _ _ _ _ _ _ _ _ _ _ _ _ _ _ _ _ _ _ _ _ _ _ _ _ _ _ _ _ _ _ _ _ _ _ _ _ _ _ _ _ _ _ _ _ _ _ _ _ _ _ _ _ _ _ _ _ _ _ _ _ _ _ _ _ _ _ _ _ _ _ _ _ _ _ _ _ _ _ _ _ _ _ _ _ _ _ _ _ _ _ _ _ _ _ _ _ _ _ _ _ _ _ _ _ _ _ _ _ _ _ _ _ _ _ _ _ _ _ _ _ _ _ _ _ Gr'.out hm hDm Hz.out hcz hll HSt.out hat0 K4.out S4.out (fun v0 v1 v2 v3 v4 v5 v6 v7 v8 v9 v10 v11 v12 v13 v15 v16 v17 v18 v19 v20 v21 v22 v23 v24 v25 v26 v27 v28 v29 v30 v31 v32 v33 v34 v35 v36 v37 v38 v39 v40 v41 v42 v43 v44 v45 v46 v47 v48 v49 v50 v51 v52 v53 v54 v55 v56 v57 v58 v59 v60 v61 v62 v63 v64 v65 v66 v67 v68 v69 v70 v71 v72 v73 v74 v75 v76 v77 v78 v79 v80 v81 v82 v83 v84 v85 v86 v87 v88 v89 v90 v91 v92 v93 v94 v95 v96 v97 v98 v99 v100 v101 v102 v103 v104 v105 v106 v107 v108 v109 v110 v111 v112 v113 v114 v115 v116 v117 v118 v119 v120 v121 v122 v123 v124 v125 v126 v127 v128 v129 v130 v131 v132 v133 v134 v135 v136 v137 v138 v139 v140 v141 v142 v143 v144 v145 v146 v147 v148 v149 v150 v151 v152 v153 v154 v155 v156 v157 v158 v159 v160 v161 v162 v163 v164 v165 v166 v167 v168 v169 v170 v171 v172 v173 v174 v175 v176 v177 v178 v179 v180 v181 v182 v183 v184 v185 v186 v187 v188 V hb => HQ.out v0 v1 v2 v3 v4 v5 v6 v7 v8 v9 v10 v11 v12 v13 v15 v16 v17 v18 v19 v20 v21 v22 v23 v24 v25 v26 v27 v28 v29 v30 v31 v32 v33 v34 v35 v36 v37 v38 v39 v40 v41 v42 v43 v44 v45 v46 v47 v48 v49 v50 v51 v52 v53 v54 v55 v56 v57 v58 v59 v60 v61 v62 v63 v64 v65 v66 v67 v68 v69 v70 v71 v72 v73 v74 v75 v76 v77 v78 v79 v80 v81 v82 v83 v84 v85 v86 v87 v88 v89 v90 v91 v92 v93 v94 v95 v96 v97 v98 v99 v100 v101 v102 v103 v104 v105 v106 v107 v108 v109 v110 v111 v112 v113 v114 v115 v116 v117 v118 v119 v120 v121 v122 v123 v124 v125 v126 v127 v128 v129 v130 v131 v132 v133 v134 v135 v136 v137 v138 v139 v140 v141 v142 v143 v144 v145 v146 v147 v148 v149 v150 v151 v152 v153 v154 v155 v156 v157 v158 v159 v160 v161 v162 v163 v164 v165 v166 v167 v168 v169 v170 v171 v172 v173 v174 v175 v176 v177 v178 v179 v180 v181 v182 v183 v184 v185 v186 v187 v188 V hb)
end Go.Proofs.Ytpaegibaikpikaa
end
