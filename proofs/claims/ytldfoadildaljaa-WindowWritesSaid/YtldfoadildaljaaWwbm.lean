/- Texts put together: WinKit, WindowWritesLoop. -/
import Derived.Test.YtldfoadildaljaaWwbj
import Derived.Test.YtldfoadildaljaaWwbg
import Derived.Test.YtldfoadildaljaaWwbl
import Derived.Test.YtldfoadildaljaaWwam
import Derived.Test.YtldfoadildaljaaWwbc
import Derived.Test.YtldfoadildaljaaWwas
section
set_option maxRecDepth 20000
set_option linter.unusedVariables false
set_option linter.unusedSimpArgs false
namespace Go.Proofs.Ytldfoadildaljaa
open Go.RowKit

section
variable {N : Bch} {lv : List Bool} {l d c l' d' c' k r r0 fr : Int} {rs ds : List (List UInt8)}
end
theorem Wg.new (m : Nat) : Wg (Bch.new m) m := ⟨rfl, rfl, rfl, fun _ _ => Dsk.new_ok, fun _ _ => rfl⟩
section
variable {W w : World} {b gl : Nat} {H : BH} {N : Bch} {K : List (Nat × Obj)} {R0 : List (Option Addr × List (List UInt8))} {lv : List Bool} {l d c l' d' c' k : Int}
end
theorem or_u8W (a b : UInt8) : bits .or .u8 (a.toNat : Int) (b.toNat : Int) = (((a ||| b).toNat : Nat) : Int) := by
  rw [u8_or_nat _ _ a.toNat_lt b.toNat_lt, UInt8.toNat_or]
theorem or_one_ne (x : UInt8) : x ||| 1 ≠ 0 := fun h => by
  have h1 := congrArg UInt8.toNat h
  rw [UInt8.toNat_or] at h1
  have h2 : (1 : UInt8).toNat ≤ x.toNat ||| (1 : UInt8).toNat := Nat.right_le_or
  have h3 : (1 : UInt8).toNat = 1 := rfl
  have h4 : (0 : UInt8).toNat = 0 := rfl
  omega
theorem KS.live {W w : World} {b : Nat} {H : BH} {N : Bch} {K : List (Nat × Obj)} {R : List (Option Addr × List (List UInt8))} {S : List (Option Addr × List UInt8)} (h : KS W w b H N K R S) {g : Nat} {lv : List Bool} {t : TypeId} {f : Nat × Nat} (hm : (g, Obj.cells (lv.map Value.bool).toArray t f) ∈ K) {d : Nat} (hd : d < lv.length) : w.cell? ⟨g, d, none⟩ = some (.bool (lv.getD d false)) := by
  rw [cell_of_row w g d _ t f (h.kx.kp _ hm).1, List.getElem?_toArray, List.getElem?_map, List.getElem?_eq_getElem hd]
  simp [List.getD_eq_getElem?_getD, hd]
end Go.Proofs.Ytldfoadildaljaa
end
section
set_option maxRecDepth 20000
set_option linter.unusedVariables false
set_option linter.unusedSimpArgs false
namespace Go.Proofs.Ytldfoadildaljaa
open Go.RowKit

noncomputable def codeWW : Code := Try.f5.body.getD .skip
/-- A sector in the window's rows, on a live disk. -/
def mineW (lv : List Bool) (r0 Rn d a : Nat) : Bool := lv.getD d false && decide (36 + r0 ≤ a) && decide (a < 36 + r0 + Rn)
/-- What is told of a disk. -/
def WwT (M : Bch) (lv : List Bool) (l' : Int) (D' : Nat) (c' : Int) (r0 Rn d : Nat) : Prop := ∀ a : Nat, a < 52 → M.readE (d : Int) (a : Int) = 0 ∧ (mineW lv r0 Rn d a = false → M.read (d : Int) (a : Int) = zeroL 32) ∧
  (mineW lv r0 Rn d a = true → plBOk l' (D' : Int) c' (d : Int) ((a : Int) - 36) = true ∧ (plBk l' (D' : Int) c' (d : Int) ((a : Int) - 36) = 0 → M.read (d : Int) (a : Int) ≠ zeroL 32 ∧ (M.read (d : Int) (a : Int)).length = 32))
set_option maxRecDepth 100000 in
set_option maxHeartbeats 3200000 in
theorem wwP {kk Rn r0 d ax D' gl : Nat} {lv : List Bool} {w : World} (u0 u1 u3 u4 u5 u6 u7 u8 u9 u10 u11 u12 u13 u14 u16 u17 u18 u19 u20 u24 u25 u26 u27 u28 u29 u30 u31 u32 u33 u34 u35 u36 u37 u38 u39 u40 u41 u42 u43 u44 u45 u46 u47 u48 u49 u50 u51 u52 u53 u54 u55 u56 u57 u58 u59 u60 u61 u62 u63 u64 u65 u66 u67 u68 u69 u70 u71 u72 u73 u74 u75 u76 u77 u78 u79 u80 u81 u82 u83 u84 u85 u86 u87 u88 u89 u90 u91 u92 u93 u94 u95 u96 u97 u98 u99 u100 u101 u102 u103 u104 u105 u106 u107 u108 u109 u110 u111 u112 u113 u114 u115 u116 u117 u118 u119 u120 u121 u122 u123 u124 u125 u126 u127 u128 u129 u130 u131 u132 u133 u134 u135 u136 u137 u138 u139 u140 u141 u142 u143 u144 u145 u146 u147 u148 u149 u150 u151 u152 u153 u154 u155 u156 u157 u158 u159 u160 u161 u162 u163 u164 u165 u166 u167 u168 u169 u170 u171 u172 u173 u174 u175 u176 u177 u178 u179 : Value) (K : Act → World → Prop) (Q0 : Exit → Act → World → Prop) (hcl : w.cell? ⟨gl, d, none⟩ = some (.bool (lv.getD d false))) (hd : d < D') (ha : ax < 52) (hr0 : (kk : Int) * (Rn : Int) = (r0 : Int)) (hR : r0 + Rn ≤ 16) (hkk : kk < 16) (hD : D' ≤ 8)
    (hK : ∀ (v127 v128 v129 v130 v131 v132 v133 v134 v135 v136 v137 v138 v139 v140 v141 v142 v143 v144 v145 v146 v147 : Value), K ⟨List.toArray (u0 :: u1 :: (.int .i64 (kk : Int)) :: u3 :: u4 :: u5 :: u6 :: u7 :: u8 :: u9 :: u10 :: u11 :: u12 :: u13 :: u14 :: (.slice (some ⟨gl, 0, none⟩) D' D') :: u16 :: u17 :: u18 :: u19 :: u20 :: (.int .i64 (Rn : Int)) :: (.int .i64 (d : Int)) :: (.int .i64 (ax : Int)) :: u24 :: u25 :: (.bool (mineW lv r0 Rn d ax)) :: u27 :: u28 :: u29 :: u30 :: u31 :: u32 :: u33 :: u34 :: u35 :: u36 :: u37 :: u38 :: u39 :: u40 :: u41 :: u42 :: u43 :: u44 :: u45 :: u46 :: u47 :: u48 :: u49 :: u50 :: u51 :: u52 :: u53 :: u54 :: u55 :: u56 :: u57 :: u58 :: u59 :: u60 :: u61 :: u62 :: u63 :: u64 :: u65 :: u66 :: u67 :: u68 :: u69 :: u70 :: u71 :: u72 :: u73 :: u74 :: u75 :: u76 :: u77 :: u78 :: u79 :: u80 :: u81 :: u82 :: u83 :: u84 :: u85 :: u86 :: u87 :: u88 :: u89 :: u90 :: u91 :: u92 :: u93 :: u94 :: u95 :: u96 :: u97 :: u98 :: u99 :: u100 :: u101 :: u102 :: u103 :: u104 :: u105 :: u106 :: u107 :: u108 :: u109 :: u110 :: u111 :: u112 :: u113 :: u114 :: u115 :: u116 :: u117 :: u118 :: u119 :: u120 :: u121 :: u122 :: u123 :: u124 :: u125 :: u126 :: v127 :: v128 :: v129 :: v130 :: v131 :: v132 :: v133 :: v134 :: v135 :: v136 :: v137 :: v138 :: v139 :: v140 :: v141 :: v142 :: v143 :: v144 :: v145 :: v146 :: v147 :: u148 :: u149 :: u150 :: u151 :: u152 :: u153 :: u154 :: u155 :: u156 :: u157 :: u158 :: u159 :: u160 :: u161 :: u162 :: u163 :: u164 :: u165 :: u166 :: u167 :: u168 :: u169 :: u170 :: u171 :: u172 :: u173 :: u174 :: u175 :: u176 :: u177 :: u178 :: u179 :: []), []⟩ w) :
    Code.wp Try.prog (sub [1, 1, 1, 1, 1, 1, 1, 1, 1, 1, 1, 1, 0, 1, 0, 0, 1, 0, 0, 1, 0, 0, 1, 0, 0, 1, 0] codeWW) (Exit.then K Q0) ⟨List.toArray (u0 :: u1 :: (.int .i64 (kk : Int)) :: u3 :: u4 :: u5 :: u6 :: u7 :: u8 :: u9 :: u10 :: u11 :: u12 :: u13 :: u14 :: (.slice (some ⟨gl, 0, none⟩) D' D') :: u16 :: u17 :: u18 :: u19 :: u20 :: (.int .i64 (Rn : Int)) :: (.int .i64 (d : Int)) :: (.int .i64 (ax : Int)) :: u24 :: u25 :: u26 :: u27 :: u28 :: u29 :: u30 :: u31 :: u32 :: u33 :: u34 :: u35 :: u36 :: u37 :: u38 :: u39 :: u40 :: u41 :: u42 :: u43 :: u44 :: u45 :: u46 :: u47 :: u48 :: u49 :: u50 :: u51 :: u52 :: u53 :: u54 :: u55 :: u56 :: u57 :: u58 :: u59 :: u60 :: u61 :: u62 :: u63 :: u64 :: u65 :: u66 :: u67 :: u68 :: u69 :: u70 :: u71 :: u72 :: u73 :: u74 :: u75 :: u76 :: u77 :: u78 :: u79 :: u80 :: u81 :: u82 :: u83 :: u84 :: u85 :: u86 :: u87 :: u88 :: u89 :: u90 :: u91 :: u92 :: u93 :: u94 :: u95 :: u96 :: u97 :: u98 :: u99 :: u100 :: u101 :: u102 :: u103 :: u104 :: u105 :: u106 :: u107 :: u108 :: u109 :: u110 :: u111 :: u112 :: u113 :: u114 :: u115 :: u116 :: u117 :: u118 :: u119 :: u120 :: u121 :: u122 :: u123 :: u124 :: u125 :: u126 :: u127 :: u128 :: u129 :: u130 :: u131 :: u132 :: u133 :: u134 :: u135 :: u136 :: u137 :: u138 :: u139 :: u140 :: u141 :: u142 :: u143 :: u144 :: u145 :: u146 :: u147 :: u148 :: u149 :: u150 :: u151 :: u152 :: u153 :: u154 :: u155 :: u156 :: u157 :: u158 :: u159 :: u160 :: u161 :: u162 :: u163 :: u164 :: u165 :: u166 :: u167 :: u168 :: u169 :: u170 :: u171 :: u172 :: u173 :: u174 :: u175 :: u176 :: u177 :: u178 :: u179 :: []), []⟩ w := by
  have HK := Lib.hid hK
  clear hK
  conv => arg 2; whnf
  have i0 : (0 : Int) ≤ (d : Int) := by omega
  have i1 : (d : Int) < (D' : Int) := by omega
  have hk1 : ((kk : Int) + 1) * (Rn : Int) = (r0 : Int) + (Rn : Int) := by rw [Int.add_mul, Int.one_mul, hr0]
  have hwA : IntKind.i64.wrap ((kk : Int) * (Rn : Int)) = (r0 : Int) := by rw [hr0]; exact IntWalk.i64_in _ (by omega)
  have hwB : IntKind.i64.wrap (((kk : Int) + 1) * (Rn : Int)) = (r0 : Int) + (Rn : Int) := by rw [hk1]; exact IntWalk.i64_in _ (by omega)
  have hwC : IntKind.i64.wrap (36 + ((r0 : Int) + (Rn : Int))) = 36 + ((r0 : Int) + (Rn : Int)) := IntWalk.i64_in _ (by omega)
  have hwD : IntKind.i64.wrap (36 + (r0 : Int)) = 36 + (r0 : Int) := IntWalk.i64_in _ (by omega)
  have hwE : IntKind.i64.wrap ((kk : Int) + 1) = (kk : Int) + 1 := IntWalk.i64_in _ (by omega)
  cases hv : lv.getD d false with
  | false =>
    rw [hv] at hcl
    have hm : mineW lv r0 Rn d ax = false := by unfold mineW; rw [hv]; rfl
    generalize mineW lv r0 Rn d ax = mn at HK hm
    subst hm
    clear hv hk1
    go_wp2_with fail
    exact HK.out _ _ _ _ _ _ _ _ _ _ _ _ _ _ _ _ _ _ _ _ _ 
  | true =>
    rw [hv] at hcl
    by_cases q1 : 36 + r0 ≤ ax
    · have j1 : (36 : Int) + (r0 : Int) ≤ (ax : Int) := by omega
      by_cases q2 : ax < 36 + r0 + Rn
      · have j2 : (ax : Int) < 36 + ((r0 : Int) + (Rn : Int)) := by omega
        have hm : mineW lv r0 Rn d ax = true := by unfold mineW; rw [hv, decide_eq_true q1, decide_eq_true q2]; rfl
        generalize mineW lv r0 Rn d ax = mn at HK hm
        subst hm
        clear hv hk1 q1 q2
        go_wp2_with fail
        exact HK.out _ _ _ _ _ _ _ _ _ _ _ _ _ _ _ _ _ _ _ _ _ 
      · have j2 : ¬ (ax : Int) < 36 + ((r0 : Int) + (Rn : Int)) := by omega
        have hm : mineW lv r0 Rn d ax = false := by unfold mineW; rw [hv, decide_eq_true q1, decide_eq_false q2]; rfl
        generalize mineW lv r0 Rn d ax = mn at HK hm
        subst hm
        clear hv hk1 q1 q2
        go_wp2_with fail
        exact HK.out _ _ _ _ _ _ _ _ _ _ _ _ _ _ _ _ _ _ _ _ _ 
    · have j1 : ¬ (36 : Int) + (r0 : Int) ≤ (ax : Int) := by omega
      have hm : mineW lv r0 Rn d ax = false := by unfold mineW; rw [hv, decide_eq_false q1]; rfl
      generalize mineW lv r0 Rn d ax = mn at HK hm
      subst hm
      clear hv hk1 q1
      go_wp2_with fail
      exact HK.out _ _ _ _ _ _ _ _ _ _ _ _ _ _ _ _ _ _ _ _ _ 
set_option maxRecDepth 100000 in
set_option maxHeartbeats 3200000 in
theorem wwAb {W0 : World} {l' c' : Int} {D' kk Rn r0 d b gl gt : Nat} {lv : List Bool} {KL : List (Nat × Obj)} {H : BH} {M : Bch} {ax : Nat} {w : World} (u0 u1 u3 u4 u5 u6 u7 u8 u9 u10 u11 u14 u16 u17 u18 u19 u20 u24 u25 u26 u27 u28 u29 u30 u31 u32 u33 u34 u35 u36 u37 u38 u39 u40 u41 u42 u43 u44 u45 u46 u47 u48 u49 u50 u51 u52 u53 u54 u55 u56 u57 u58 u59 u60 u61 u62 u63 u64 u65 u66 u67 u68 u69 u70 u71 u72 u73 u74 u75 u76 u77 u78 u79 u80 u81 u82 u83 u84 u85 u86 u87 u88 u89 u90 u91 u92 u93 u94 u95 u96 u97 u98 u99 u100 u101 u102 u103 u104 u105 u106 u107 u108 u109 u110 u111 u112 u113 u114 u115 u116 u117 u118 u119 u120 u121 u122 u123 u124 u125 u126 u127 u128 u129 u130 u131 u132 u133 u134 u135 u136 u137 u138 u139 u140 u141 u142 u143 u144 u145 u146 u147 u148 u149 u150 u151 u152 u153 u154 u155 u156 u157 u158 u159 u160 u161 u162 u163 u164 u165 u166 u167 u168 u169 u170 u171 u172 u173 u174 u175 u176 u177 u178 u179 : Value) (K : Act → World → Prop) (Q0 : Exit → Act → World → Prop) (hG : (gt, Obj.cells #[.int .i64 l', .int .i64 (D' : Int), .int .i64 c'] 23 (0, 0)) ∈ KL) (hL : (gl, Obj.cells (lv.map Value.bool).toArray 4 (0, 0)) ∈ KL) (hlv : lv.length = D') (hd : d < D') (hr0 : (kk : Int) * (Rn : Int) = (r0 : Int)) (hR : r0 + Rn ≤ 16) (hkk : kk < 16) (hD : D' ≤ 8) (h64 : (-9223372036854775808 ≤ l' ∧ l' ≤ 9223372036854775807) ∧ (-9223372036854775808 ≤ c' ∧ c' ≤ 9223372036854775807)) (hT : WwT M lv l' D' c' r0 Rn d) (hI : (ax ≤ 52 ∧ KS W0 w b H M KL [] []))
    (hK : ∀ (v10 v24 v25 v26 v27 v28 v29 v116 v117 v118 v119 v120 v121 v122 v123 v124 v125 v126 v127 v128 v129 v130 v131 v132 v133 v134 v135 v136 v137 v138 v139 v140 v141 v142 v143 v144 v145 v146 v147 v148 v149 v150 v151 v152 v153 v154 v155 v156 v157 v158 v159 v160 v161 v162 v163 v164 v165 v166 v167 v168 v169 v170 v171 v172 v173 v174 v175 v176 v177 v178 : Value)  (V : World), ((ax + 1) ≤ 52 ∧ KS W0 V b H M KL [] []) → 52 - (ax + 1) < 52 - ax → K ⟨List.toArray (u0 :: u1 :: (.int .i64 (kk : Int)) :: u3 :: u4 :: u5 :: u6 :: u7 :: u8 :: u9 :: v10 :: u11 :: (.pointer (some ⟨gt, 0, none⟩)) :: (.pointer (some ⟨b, 0, none⟩)) :: u14 :: (.slice (some ⟨gl, 0, none⟩) D' D') :: u16 :: u17 :: u18 :: u19 :: u20 :: (.int .i64 (Rn : Int)) :: (.int .i64 (d : Int)) :: (.int .i64 (((ax + 1) : Nat) : Int)) :: v24 :: v25 :: v26 :: v27 :: v28 :: v29 :: u30 :: u31 :: u32 :: u33 :: u34 :: u35 :: u36 :: u37 :: u38 :: u39 :: u40 :: u41 :: u42 :: u43 :: u44 :: u45 :: u46 :: u47 :: u48 :: u49 :: u50 :: u51 :: u52 :: u53 :: u54 :: u55 :: u56 :: u57 :: u58 :: u59 :: u60 :: u61 :: u62 :: u63 :: u64 :: u65 :: u66 :: u67 :: u68 :: u69 :: u70 :: u71 :: u72 :: u73 :: u74 :: u75 :: u76 :: u77 :: u78 :: u79 :: u80 :: u81 :: u82 :: u83 :: u84 :: u85 :: u86 :: u87 :: u88 :: u89 :: u90 :: u91 :: u92 :: u93 :: u94 :: u95 :: u96 :: u97 :: u98 :: u99 :: u100 :: u101 :: u102 :: u103 :: u104 :: u105 :: u106 :: u107 :: u108 :: u109 :: u110 :: u111 :: u112 :: u113 :: u114 :: u115 :: v116 :: v117 :: v118 :: v119 :: v120 :: v121 :: v122 :: v123 :: v124 :: v125 :: v126 :: v127 :: v128 :: v129 :: v130 :: v131 :: v132 :: v133 :: v134 :: v135 :: v136 :: v137 :: v138 :: v139 :: v140 :: v141 :: v142 :: v143 :: v144 :: v145 :: v146 :: v147 :: v148 :: v149 :: v150 :: v151 :: v152 :: v153 :: v154 :: v155 :: v156 :: v157 :: v158 :: v159 :: v160 :: v161 :: v162 :: v163 :: v164 :: v165 :: v166 :: v167 :: v168 :: v169 :: v170 :: v171 :: v172 :: v173 :: v174 :: v175 :: v176 :: v177 :: v178 :: u179 :: []), []⟩ V)
    (hX : ∀ (v10 v24 v25 v26 v27 v28 v29 v116 v117 v118 v119 v120 v121 v122 v123 v124 v125 v126 v127 v128 v129 v130 v131 v132 v133 v134 v135 v136 v137 v138 v139 v140 v141 v142 v143 v144 v145 v146 v147 v148 v149 v150 v151 v152 v153 v154 v155 v156 v157 v158 v159 v160 v161 v162 v163 v164 v165 v166 v167 v168 v169 v170 v171 v172 v173 v174 v175 v176 v177 v178 : Value), (ax = 52) → Q0 (.exit 4) ⟨List.toArray (u0 :: u1 :: (.int .i64 (kk : Int)) :: u3 :: u4 :: u5 :: u6 :: u7 :: u8 :: u9 :: v10 :: u11 :: (.pointer (some ⟨gt, 0, none⟩)) :: (.pointer (some ⟨b, 0, none⟩)) :: u14 :: (.slice (some ⟨gl, 0, none⟩) D' D') :: u16 :: u17 :: u18 :: u19 :: u20 :: (.int .i64 (Rn : Int)) :: (.int .i64 (d : Int)) :: (.int .i64 ((ax : Nat) : Int)) :: v24 :: v25 :: v26 :: v27 :: v28 :: v29 :: u30 :: u31 :: u32 :: u33 :: u34 :: u35 :: u36 :: u37 :: u38 :: u39 :: u40 :: u41 :: u42 :: u43 :: u44 :: u45 :: u46 :: u47 :: u48 :: u49 :: u50 :: u51 :: u52 :: u53 :: u54 :: u55 :: u56 :: u57 :: u58 :: u59 :: u60 :: u61 :: u62 :: u63 :: u64 :: u65 :: u66 :: u67 :: u68 :: u69 :: u70 :: u71 :: u72 :: u73 :: u74 :: u75 :: u76 :: u77 :: u78 :: u79 :: u80 :: u81 :: u82 :: u83 :: u84 :: u85 :: u86 :: u87 :: u88 :: u89 :: u90 :: u91 :: u92 :: u93 :: u94 :: u95 :: u96 :: u97 :: u98 :: u99 :: u100 :: u101 :: u102 :: u103 :: u104 :: u105 :: u106 :: u107 :: u108 :: u109 :: u110 :: u111 :: u112 :: u113 :: u114 :: u115 :: v116 :: v117 :: v118 :: v119 :: v120 :: v121 :: v122 :: v123 :: v124 :: v125 :: v126 :: v127 :: v128 :: v129 :: v130 :: v131 :: v132 :: v133 :: v134 :: v135 :: v136 :: v137 :: v138 :: v139 :: v140 :: v141 :: v142 :: v143 :: v144 :: v145 :: v146 :: v147 :: v148 :: v149 :: v150 :: v151 :: v152 :: v153 :: v154 :: v155 :: v156 :: v157 :: v158 :: v159 :: v160 :: v161 :: v162 :: v163 :: v164 :: v165 :: v166 :: v167 :: v168 :: v169 :: v170 :: v171 :: v172 :: v173 :: v174 :: v175 :: v176 :: v177 :: v178 :: u179 :: []), []⟩ w) :
    Code.wp Try.prog (sub [1, 1, 1, 1, 1, 1, 1, 1, 1, 1, 1, 1, 0, 1, 0, 0, 1, 0, 0, 1, 0, 0] codeWW) (Exit.then K Q0) ⟨List.toArray (u0 :: u1 :: (.int .i64 (kk : Int)) :: u3 :: u4 :: u5 :: u6 :: u7 :: u8 :: u9 :: u10 :: u11 :: (.pointer (some ⟨gt, 0, none⟩)) :: (.pointer (some ⟨b, 0, none⟩)) :: u14 :: (.slice (some ⟨gl, 0, none⟩) D' D') :: u16 :: u17 :: u18 :: u19 :: u20 :: (.int .i64 (Rn : Int)) :: (.int .i64 (d : Int)) :: (.int .i64 ((ax : Nat) : Int)) :: u24 :: u25 :: u26 :: u27 :: u28 :: u29 :: u30 :: u31 :: u32 :: u33 :: u34 :: u35 :: u36 :: u37 :: u38 :: u39 :: u40 :: u41 :: u42 :: u43 :: u44 :: u45 :: u46 :: u47 :: u48 :: u49 :: u50 :: u51 :: u52 :: u53 :: u54 :: u55 :: u56 :: u57 :: u58 :: u59 :: u60 :: u61 :: u62 :: u63 :: u64 :: u65 :: u66 :: u67 :: u68 :: u69 :: u70 :: u71 :: u72 :: u73 :: u74 :: u75 :: u76 :: u77 :: u78 :: u79 :: u80 :: u81 :: u82 :: u83 :: u84 :: u85 :: u86 :: u87 :: u88 :: u89 :: u90 :: u91 :: u92 :: u93 :: u94 :: u95 :: u96 :: u97 :: u98 :: u99 :: u100 :: u101 :: u102 :: u103 :: u104 :: u105 :: u106 :: u107 :: u108 :: u109 :: u110 :: u111 :: u112 :: u113 :: u114 :: u115 :: u116 :: u117 :: u118 :: u119 :: u120 :: u121 :: u122 :: u123 :: u124 :: u125 :: u126 :: u127 :: u128 :: u129 :: u130 :: u131 :: u132 :: u133 :: u134 :: u135 :: u136 :: u137 :: u138 :: u139 :: u140 :: u141 :: u142 :: u143 :: u144 :: u145 :: u146 :: u147 :: u148 :: u149 :: u150 :: u151 :: u152 :: u153 :: u154 :: u155 :: u156 :: u157 :: u158 :: u159 :: u160 :: u161 :: u162 :: u163 :: u164 :: u165 :: u166 :: u167 :: u168 :: u169 :: u170 :: u171 :: u172 :: u173 :: u174 :: u175 :: u176 :: u177 :: u178 :: u179 :: []), []⟩ w := by
  have HK := Lib.hid hK
  have HX := Lib.hid hX
  clear hK hX
  conv => arg 2; whnf
  obtain ⟨ha52, hk⟩ := hI
  by_cases ha : ax < 52
  · have j0 : (0 : Int) ≤ (ax : Int) := by omega
    have j1 : (ax : Int) < 52 := by omega
    have CR := Lib.hid (bp_read _ _ _ _ _ hk.bp (d : Int) (ax : Int) ⟨by omega, by omega⟩ ⟨by omega, by omega⟩)
    obtain ⟨t0, t1, t2⟩ := hT ax ha
    rw [t0] at CR
    obtain ⟨x, hx⟩ : ∃ x, M.read (d : Int) (ax : Int) = x := ⟨_, rfl⟩
    rw [hx] at CR t1 t2
    have T1 := Lib.hid t1
    have T2 := Lib.hid t2
    have hwa : IntKind.i64.wrap ((ax : Int) - 36) = (ax : Int) - 36 := IntWalk.i64_in _ (by omega)
    have CB := Lib.hid (fun V => refBack_any l' (D' : Int) c' (d : Int) ((ax : Int) - 36) V h64.1 (by omega) h64.2 (by omega) (by omega))
    have hmk : ∀ w, (Instr.makeSlice 54 (.int .i64 32) (.int .i64 32)).run Try.prog w = .ok (.slice (some ⟨w.heap.size, 0, none⟩) 32 32) (w.alloc (.cells (zcells 32) 5)) := make_bytes 32 (by omega)
    have HKS := Lib.hid hk
    clear t0 t1 t2 hx hT HX hk
    go_wp2_with fail
    (with_reducible refine CR.out.mono ?_); rintro e v1 ⟨v, rfl, hr, hb1⟩
    have KB := Lib.hid (HKS.out.below hb1)
    obtain ⟨Ar, cr, rfl, _, hrd⟩ := hr.rd
    have hcl := KB.out.live (g := gl) (lv := lv) (t := 4) (f := (0, 0)) hL (d := d) (by omega)
    have HR := Lib.hid hrd
    clear hr hrd hb1 CR HKS
    go_upto_region 27 with fail
    refine wwP _ _ _ _ _ _ _ _ _ _ _ _ _ _ _ _ _ _ _ _ _ _ _ _ _ _ _ _ _ _ _ _ _ _ _ _ _ _ _ _ _ _ _ _ _ _ _ _ _ _ _ _ _ _ _ _ _ _ _ _ _ _ _ _ _ _ _ _ _ _ _ _ _ _ _ _ _ _ _ _ _ _ _ _ _ _ _ _ _ _ _ _ _ _ _ _ _ _ _ _ _ _ _ _ _ _ _ _ _ _ _ _ _ _ _ _ _ _ _ _ _ _ _ _ _ _ _ _ _ _ _ _ _ _ _ _ _ _ _ _ _ _ _ _ _ _ _ _ _ _ _ _ _ _ _ _ _ _ _ _ _ _ _ _ _ _ _ _ _ _ _ _ _ _ _ _ _ hcl hd ha hr0 hR hkk hD (fun v127 v128 v129 v130 v131 v132 v133 v134 v135 v136 v137 v138 v139 v140 v141 v142 v143 v144 v145 v146 v147 => ?_)
    clear hcl
    generalize mineW lv r0 Rn d ax = mn at T1 T2
    refine ‹∀ (a : Act) (w : World), Code.wp Try.prog _ _ a w → _› _ _ ?_
    obtain ⟨g4, g5, g6⟩ := KB.out.gat (g := gt) (l := l') (d := (D' : Int)) (c := c') (t := 23) (f := (0, 0)) hG
    cases mn with
    | true =>
      obtain ⟨m1, m2⟩ := T2.out rfl
      rw [m1] at CB
      generalize plBk l' (D' : Int) c' (d : Int) ((ax : Int) - 36) = kd at CB m2
      have HM2 := Lib.hid m2
      clear T1 T2 m1 m2
      go_wp2_with fail
      (with_reducible refine (CB.out _).mono ?_); rintro e v3 ⟨rfl, hb3⟩
      have KD := Lib.hid (KB.out.below hb3)
      have HR3 := Lib.hid ((HR.out.below hb3 (Nat.le_refl _)).more hb3.size)
      clear hb3 KB CB g4 g5 g6 HR
      by_cases q : kd = 0
      · subst q
        obtain ⟨q1, q2⟩ := HM2.out rfl
        have CS := Lib.hid (fun V (hb : Below v3.heap.size v3 V) (hz : RdB V V.heap.size (some ⟨v3.heap.size, 0, none⟩) (zeroL 32)) => same_any Ar (some ⟨v3.heap.size, 0, none⟩) x.length 32 cr 32 _ x (zeroL 32) V rfl rfl ((HR3.out.below hb (Nat.le_refl _)).more hb.size) hz)
        have Hne := Lib.hid q1
        clear HM2 HR3 q1 q2
        go_wp2_with fail
        (with_reducible refine (CS.out _ (below1 v3 _) (rdb_zc v3)).mono ?_); rintro e v4 ⟨rfl, mm, rfl⟩
        have KE := Lib.hid (KD.out.below ((below1 v3 (.cells (zcells 32) 5)).trans ((belowN _ _ mm).mono (below1 v3 (.cells (zcells 32) 5)).size)))
        have hse : decide (x = zeroL 32) = false := decide_eq_false Hne.out
        clear CS KD
        rw [hse]
        go_wp2_with fail
        exact HK.out _ _ _ _ _ _ _ _ _ _ _ _ _ _ _ _ _ _ _ _ _ _ _ _ _ _ _ _ _ _ _ _ _ _ _ _ _ _ _ _ _ _ _ _ _ _ _ _ _ _ _ _ _ _ _ _ _ _ _ _ _ _ _ _ _ _ _ _ _ _ _ ⟨by omega, KE.out⟩ (by omega)
      · have qb : (kd == 0) = false := by rw [beq_eq_false_iff_ne]; exact q
        clear HM2 HR3
        go_wp2_with fail
        exact HK.out _ _ _ _ _ _ _ _ _ _ _ _ _ _ _ _ _ _ _ _ _ _ _ _ _ _ _ _ _ _ _ _ _ _ _ _ _ _ _ _ _ _ _ _ _ _ _ _ _ _ _ _ _ _ _ _ _ _ _ _ _ _ _ _ _ _ _ _ _ _ _ ⟨by omega, KD.out⟩ (by omega)
    | false =>
      have hxz := T1.out rfl
      subst hxz
      clear T1 T2
      have hrd0 := HR.out
      have CS := Lib.hid (fun V (hb : Below v1.heap.size v1 V) (hz : RdB V V.heap.size (some ⟨v1.heap.size, 0, none⟩) (zeroL 32)) => same_any Ar (some ⟨v1.heap.size, 0, none⟩) (zeroL 32).length 32 cr 32 _ (zeroL 32) (zeroL 32) V rfl rfl ((hrd0.below hb (Nat.le_refl _)).more hb.size) hz)
      clear hrd0 g4 g5 g6
      go_wp2_with fail
      (with_reducible refine (CS.out _ (below1 v1 _) (rdb_zc v1)).mono ?_); rintro e v2 ⟨rfl, mm, rfl⟩
      have KC := Lib.hid (KB.out.below ((below1 v1 (.cells (zcells 32) 5)).trans ((belowN _ _ mm).mono (below1 v1 (.cells (zcells 32) 5)).size)))
      have hse : decide (zeroL 32 = zeroL 32) = true := decide_eq_true rfl
      rw [hse]
      obtain ⟨g4, g5, g6⟩ := KC.out.gat (g := gt) (l := l') (d := (D' : Int)) (c := c') (t := 23) (f := (0, 0)) hG
      clear CS KB HR hse
      go_wp2_with fail
      (with_reducible refine (CB.out _).mono ?_); rintro e v3 ⟨rfl, hb3⟩
      have KD := Lib.hid (KC.out.below hb3)
      clear hb3 KC CB g4 g5 g6
      go_wp2_with fail
      exact HK.out _ _ _ _ _ _ _ _ _ _ _ _ _ _ _ _ _ _ _ _ _ _ _ _ _ _ _ _ _ _ _ _ _ _ _ _ _ _ _ _ _ _ _ _ _ _ _ _ _ _ _ _ _ _ _ _ _ _ _ _ _ _ _ _ _ _ _ _ _ _ _ ⟨by omega, KD.out⟩ (by omega)
  · have j1 : ¬ (ax : Int) < 52 := by omega
    have Hin := Lib.hid (show ax = 52 by omega)
    clear HK hk ha
    go_wp2_with fail
    exact HX.out _ _ _ _ _ _ _ _ _ _ _ _ _ _ _ _ _ _ _ _ _ _ _ _ _ _ _ _ _ _ _ _ _ _ _ _ _ _ _ _ _ _ _ _ _ _ _ _ _ _ _ _ _ _ _ _ _ _ _ _ _ _ _ _ _ _ _ _ _ _ Hin.out
set_option maxRecDepth 100000 in
set_option maxHeartbeats 3200000 in
theorem wwA {W0 : World} {l' c' : Int} {D' kk Rn r0 d b gl gt : Nat} {lv : List Bool} {KL : List (Nat × Obj)} {H : BH} {M : Bch}  {w : World} (u0 u1 u3 u4 u5 u6 u7 u8 u9 u10 u11 u14 u16 u17 u18 u19 u20 u24 u25 u26 u27 u28 u29 u30 u31 u32 u33 u34 u35 u36 u37 u38 u39 u40 u41 u42 u43 u44 u45 u46 u47 u48 u49 u50 u51 u52 u53 u54 u55 u56 u57 u58 u59 u60 u61 u62 u63 u64 u65 u66 u67 u68 u69 u70 u71 u72 u73 u74 u75 u76 u77 u78 u79 u80 u81 u82 u83 u84 u85 u86 u87 u88 u89 u90 u91 u92 u93 u94 u95 u96 u97 u98 u99 u100 u101 u102 u103 u104 u105 u106 u107 u108 u109 u110 u111 u112 u113 u114 u115 u116 u117 u118 u119 u120 u121 u122 u123 u124 u125 u126 u127 u128 u129 u130 u131 u132 u133 u134 u135 u136 u137 u138 u139 u140 u141 u142 u143 u144 u145 u146 u147 u148 u149 u150 u151 u152 u153 u154 u155 u156 u157 u158 u159 u160 u161 u162 u163 u164 u165 u166 u167 u168 u169 u170 u171 u172 u173 u174 u175 u176 u177 u178 u179 : Value) (Q : Exit → Act → World → Prop) (hG : (gt, Obj.cells #[.int .i64 l', .int .i64 (D' : Int), .int .i64 c'] 23 (0, 0)) ∈ KL) (hL : (gl, Obj.cells (lv.map Value.bool).toArray 4 (0, 0)) ∈ KL) (hlv : lv.length = D') (hd : d < D') (hr0 : (kk : Int) * (Rn : Int) = (r0 : Int)) (hR : r0 + Rn ≤ 16) (hkk : kk < 16) (hD : D' ≤ 8) (h64 : (-9223372036854775808 ≤ l' ∧ l' ≤ 9223372036854775807) ∧ (-9223372036854775808 ≤ c' ∧ c' ≤ 9223372036854775807)) (hT : WwT M lv l' D' c' r0 Rn d) (hI : (0 ≤ 52 ∧ KS W0 w b H M KL [] []))
    (hX : ∀ (v10 v24 v25 v26 v27 v28 v29 v116 v117 v118 v119 v120 v121 v122 v123 v124 v125 v126 v127 v128 v129 v130 v131 v132 v133 v134 v135 v136 v137 v138 v139 v140 v141 v142 v143 v144 v145 v146 v147 v148 v149 v150 v151 v152 v153 v154 v155 v156 v157 v158 v159 v160 v161 v162 v163 v164 v165 v166 v167 v168 v169 v170 v171 v172 v173 v174 v175 v176 v177 v178 : Value) (ax : Nat) (V : World), (ax ≤ 52 ∧ KS W0 V b H M KL [] []) → (ax = 52) → Q (.exit 4) ⟨List.toArray (u0 :: u1 :: (.int .i64 (kk : Int)) :: u3 :: u4 :: u5 :: u6 :: u7 :: u8 :: u9 :: v10 :: u11 :: (.pointer (some ⟨gt, 0, none⟩)) :: (.pointer (some ⟨b, 0, none⟩)) :: u14 :: (.slice (some ⟨gl, 0, none⟩) D' D') :: u16 :: u17 :: u18 :: u19 :: u20 :: (.int .i64 (Rn : Int)) :: (.int .i64 (d : Int)) :: (.int .i64 ((ax : Nat) : Int)) :: v24 :: v25 :: v26 :: v27 :: v28 :: v29 :: u30 :: u31 :: u32 :: u33 :: u34 :: u35 :: u36 :: u37 :: u38 :: u39 :: u40 :: u41 :: u42 :: u43 :: u44 :: u45 :: u46 :: u47 :: u48 :: u49 :: u50 :: u51 :: u52 :: u53 :: u54 :: u55 :: u56 :: u57 :: u58 :: u59 :: u60 :: u61 :: u62 :: u63 :: u64 :: u65 :: u66 :: u67 :: u68 :: u69 :: u70 :: u71 :: u72 :: u73 :: u74 :: u75 :: u76 :: u77 :: u78 :: u79 :: u80 :: u81 :: u82 :: u83 :: u84 :: u85 :: u86 :: u87 :: u88 :: u89 :: u90 :: u91 :: u92 :: u93 :: u94 :: u95 :: u96 :: u97 :: u98 :: u99 :: u100 :: u101 :: u102 :: u103 :: u104 :: u105 :: u106 :: u107 :: u108 :: u109 :: u110 :: u111 :: u112 :: u113 :: u114 :: u115 :: v116 :: v117 :: v118 :: v119 :: v120 :: v121 :: v122 :: v123 :: v124 :: v125 :: v126 :: v127 :: v128 :: v129 :: v130 :: v131 :: v132 :: v133 :: v134 :: v135 :: v136 :: v137 :: v138 :: v139 :: v140 :: v141 :: v142 :: v143 :: v144 :: v145 :: v146 :: v147 :: v148 :: v149 :: v150 :: v151 :: v152 :: v153 :: v154 :: v155 :: v156 :: v157 :: v158 :: v159 :: v160 :: v161 :: v162 :: v163 :: v164 :: v165 :: v166 :: v167 :: v168 :: v169 :: v170 :: v171 :: v172 :: v173 :: v174 :: v175 :: v176 :: v177 :: v178 :: u179 :: []), []⟩ V) :
    Code.wp Try.prog (.loop (sub [1, 1, 1, 1, 1, 1, 1, 1, 1, 1, 1, 1, 0, 1, 0, 0, 1, 0, 0, 1, 0, 0] codeWW)) Q ⟨List.toArray (u0 :: u1 :: (.int .i64 (kk : Int)) :: u3 :: u4 :: u5 :: u6 :: u7 :: u8 :: u9 :: u10 :: u11 :: (.pointer (some ⟨gt, 0, none⟩)) :: (.pointer (some ⟨b, 0, none⟩)) :: u14 :: (.slice (some ⟨gl, 0, none⟩) D' D') :: u16 :: u17 :: u18 :: u19 :: u20 :: (.int .i64 (Rn : Int)) :: (.int .i64 (d : Int)) :: (.int .i64 ((0 : Nat) : Int)) :: u24 :: u25 :: u26 :: u27 :: u28 :: u29 :: u30 :: u31 :: u32 :: u33 :: u34 :: u35 :: u36 :: u37 :: u38 :: u39 :: u40 :: u41 :: u42 :: u43 :: u44 :: u45 :: u46 :: u47 :: u48 :: u49 :: u50 :: u51 :: u52 :: u53 :: u54 :: u55 :: u56 :: u57 :: u58 :: u59 :: u60 :: u61 :: u62 :: u63 :: u64 :: u65 :: u66 :: u67 :: u68 :: u69 :: u70 :: u71 :: u72 :: u73 :: u74 :: u75 :: u76 :: u77 :: u78 :: u79 :: u80 :: u81 :: u82 :: u83 :: u84 :: u85 :: u86 :: u87 :: u88 :: u89 :: u90 :: u91 :: u92 :: u93 :: u94 :: u95 :: u96 :: u97 :: u98 :: u99 :: u100 :: u101 :: u102 :: u103 :: u104 :: u105 :: u106 :: u107 :: u108 :: u109 :: u110 :: u111 :: u112 :: u113 :: u114 :: u115 :: u116 :: u117 :: u118 :: u119 :: u120 :: u121 :: u122 :: u123 :: u124 :: u125 :: u126 :: u127 :: u128 :: u129 :: u130 :: u131 :: u132 :: u133 :: u134 :: u135 :: u136 :: u137 :: u138 :: u139 :: u140 :: u141 :: u142 :: u143 :: u144 :: u145 :: u146 :: u147 :: u148 :: u149 :: u150 :: u151 :: u152 :: u153 :: u154 :: u155 :: u156 :: u157 :: u158 :: u159 :: u160 :: u161 :: u162 :: u163 :: u164 :: u165 :: u166 :: u167 :: u168 :: u169 :: u170 :: u171 :: u172 :: u173 :: u174 :: u175 :: u176 :: u177 :: u178 :: u179 :: []), []⟩ w := by
  refine wp_loop_ghost (fun gk a V => ∀ C : Prop, (∀ (u10 u24 u25 u26 u27 u28 u29 u116 u117 u118 u119 u120 u121 u122 u123 u124 u125 u126 u127 u128 u129 u130 u131 u132 u133 u134 u135 u136 u137 u138 u139 u140 u141 u142 u143 u144 u145 u146 u147 u148 u149 u150 u151 u152 u153 u154 u155 u156 u157 u158 u159 u160 u161 u162 u163 u164 u165 u166 u167 u168 u169 u170 u171 u172 u173 u174 u175 u176 u177 u178 : Value) (ax : Nat), gk = 52 - ax → (ax ≤ 52 ∧ KS W0 V b H M KL [] []) → a = ⟨List.toArray (u0 :: u1 :: (.int .i64 (kk : Int)) :: u3 :: u4 :: u5 :: u6 :: u7 :: u8 :: u9 :: u10 :: u11 :: (.pointer (some ⟨gt, 0, none⟩)) :: (.pointer (some ⟨b, 0, none⟩)) :: u14 :: (.slice (some ⟨gl, 0, none⟩) D' D') :: u16 :: u17 :: u18 :: u19 :: u20 :: (.int .i64 (Rn : Int)) :: (.int .i64 (d : Int)) :: (.int .i64 ((ax : Nat) : Int)) :: u24 :: u25 :: u26 :: u27 :: u28 :: u29 :: u30 :: u31 :: u32 :: u33 :: u34 :: u35 :: u36 :: u37 :: u38 :: u39 :: u40 :: u41 :: u42 :: u43 :: u44 :: u45 :: u46 :: u47 :: u48 :: u49 :: u50 :: u51 :: u52 :: u53 :: u54 :: u55 :: u56 :: u57 :: u58 :: u59 :: u60 :: u61 :: u62 :: u63 :: u64 :: u65 :: u66 :: u67 :: u68 :: u69 :: u70 :: u71 :: u72 :: u73 :: u74 :: u75 :: u76 :: u77 :: u78 :: u79 :: u80 :: u81 :: u82 :: u83 :: u84 :: u85 :: u86 :: u87 :: u88 :: u89 :: u90 :: u91 :: u92 :: u93 :: u94 :: u95 :: u96 :: u97 :: u98 :: u99 :: u100 :: u101 :: u102 :: u103 :: u104 :: u105 :: u106 :: u107 :: u108 :: u109 :: u110 :: u111 :: u112 :: u113 :: u114 :: u115 :: u116 :: u117 :: u118 :: u119 :: u120 :: u121 :: u122 :: u123 :: u124 :: u125 :: u126 :: u127 :: u128 :: u129 :: u130 :: u131 :: u132 :: u133 :: u134 :: u135 :: u136 :: u137 :: u138 :: u139 :: u140 :: u141 :: u142 :: u143 :: u144 :: u145 :: u146 :: u147 :: u148 :: u149 :: u150 :: u151 :: u152 :: u153 :: u154 :: u155 :: u156 :: u157 :: u158 :: u159 :: u160 :: u161 :: u162 :: u163 :: u164 :: u165 :: u166 :: u167 :: u168 :: u169 :: u170 :: u171 :: u172 :: u173 :: u174 :: u175 :: u176 :: u177 :: u178 :: u179 :: []), []⟩ → C) → C) (52 - 0) ?_ ?_
  · intro C hC
    exact hC _ _ _ _ _ _ _ _ _ _ _ _ _ _ _ _ _ _ _ _ _ _ _ _ _ _ _ _ _ _ _ _ _ _ _ _ _ _ _ _ _ _ _ _ _ _ _ _ _ _ _ _ _ _ _ _ _ _ _ _ _ _ _ _ _ _ _ _ _ _ (0) rfl hI rfl
  · intro gk a V hI'
    refine hI' _ ?_
    intro u10 u24 u25 u26 u27 u28 u29 u116 u117 u118 u119 u120 u121 u122 u123 u124 u125 u126 u127 u128 u129 u130 u131 u132 u133 u134 u135 u136 u137 u138 u139 u140 u141 u142 u143 u144 u145 u146 u147 u148 u149 u150 u151 u152 u153 u154 u155 u156 u157 u158 u159 u160 u161 u162 u163 u164 u165 u166 u167 u168 u169 u170 u171 u172 u173 u174 u175 u176 u177 u178 ax hk hinv ha
    subst ha
    subst hk
    refine wwAb _ _ _ _ _ _ _ _ _ _ _ _ _ _ _ _ _ _ _ _ _ _ _ _ _ _ _ _ _ _ _ _ _ _ _ _ _ _ _ _ _ _ _ _ _ _ _ _ _ _ _ _ _ _ _ _ _ _ _ _ _ _ _ _ _ _ _ _ _ _ _ _ _ _ _ _ _ _ _ _ _ _ _ _ _ _ _ _ _ _ _ _ _ _ _ _ _ _ _ _ _ _ _ _ _ _ _ _ _ _ _ _ _ _ _ _ _ _ _ _ _ _ _ _ _ _ _ _ _ _ _ _ _ _ _ _ _ _ _ _ _ _ _ _ _ _ _ _ _ _ _ _ _ _ _ _ _ _ _ _ _ _ _ _ _ _ _ _ _ _ _ _ _ _ _ hG hL hlv hd hr0 hR hkk hD h64 hT hinv (fun v10 v24 v25 v26 v27 v28 v29 v116 v117 v118 v119 v120 v121 v122 v123 v124 v125 v126 v127 v128 v129 v130 v131 v132 v133 v134 v135 v136 v137 v138 v139 v140 v141 v142 v143 v144 v145 v146 v147 v148 v149 v150 v151 v152 v153 v154 v155 v156 v157 v158 v159 v160 v161 v162 v163 v164 v165 v166 v167 v168 v169 v170 v171 v172 v173 v174 v175 v176 v177 v178  V2 h2 hm => ?_) (fun v10 v24 v25 v26 v27 v28 v29 v116 v117 v118 v119 v120 v121 v122 v123 v124 v125 v126 v127 v128 v129 v130 v131 v132 v133 v134 v135 v136 v137 v138 v139 v140 v141 v142 v143 v144 v145 v146 v147 v148 v149 v150 v151 v152 v153 v154 v155 v156 v157 v158 v159 v160 v161 v162 v163 v164 v165 v166 v167 v168 v169 v170 v171 v172 v173 v174 v175 v176 v177 v178 hx => hX v10 v24 v25 v26 v27 v28 v29 v116 v117 v118 v119 v120 v121 v122 v123 v124 v125 v126 v127 v128 v129 v130 v131 v132 v133 v134 v135 v136 v137 v138 v139 v140 v141 v142 v143 v144 v145 v146 v147 v148 v149 v150 v151 v152 v153 v154 v155 v156 v157 v158 v159 v160 v161 v162 v163 v164 v165 v166 v167 v168 v169 v170 v171 v172 v173 v174 v175 v176 v177 v178 ax V hinv hx)
    refine ⟨_, hm, fun C hC => ?_⟩
    exact hC v10 v24 v25 v26 v27 v28 v29 v116 v117 v118 v119 v120 v121 v122 v123 v124 v125 v126 v127 v128 v129 v130 v131 v132 v133 v134 v135 v136 v137 v138 v139 v140 v141 v142 v143 v144 v145 v146 v147 v148 v149 v150 v151 v152 v153 v154 v155 v156 v157 v158 v159 v160 v161 v162 v163 v164 v165 v166 v167 v168 v169 v170 v171 v172 v173 v174 v175 v176 v177 v178 ((ax + 1)) rfl h2 rfl
end Go.Proofs.Ytldfoadildaljaa
end
