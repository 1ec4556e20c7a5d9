/- RowForms: its first loop. -/
import Derived.Test.YtbojmofkhkegmaaRaaj
import Derived.StillTailTactics
set_option linter.unusedVariables false
set_option linter.unusedSimpArgs false
namespace Go.Proofs.Ytbojmofkhkegmaa
open Go.RowKit

noncomputable def codeRF : Code := Try.f3.body.getD .skip
/-- A sector as far as byte k. -/
def zTo (y : List UInt8) (k : Nat) : List UInt8 := y.take k ++ zeroL (32 - k)
theorem zTo_len {y : List UInt8} {k : Nat} (hy : y.length = 32) (hk : k ≤ 32) : (zTo y k).length = 32 := by simp [zTo, zeroL, hy]; omega
theorem zTo_zero (y : List UInt8) : zTo y 0 = zeroL 32 := rfl
theorem zTo_all {y : List UInt8} (hy : y.length = 32) : zTo y 32 = y := by
  unfold zTo; rw [List.take_of_length_le (by omega)]; simp [zeroL]
theorem zTo_succ {y : List UInt8} {k : Nat} (hy : y.length = 32) (hk : k < 32) : (zTo y k).set k (y.getD k 0) = zTo y (k + 1) := by
  have hl : (y.take k).length = k := by rw [List.length_take, hy]; omega
  unfold zTo zeroL
  rw [List.set_append_right _ _ (by omega), hl, Nat.sub_self, show 32 - k = (32 - (k + 1)) + 1 from by omega, List.replicate_succ, List.set_cons_zero, List.take_succ_eq_append_getElem (by omega), List.append_assoc]
  simp [List.getD_eq_getElem?_getD, hy, hk]
theorem qB_two {a b : List UInt8} (ha : a.length = 32) (hb : b.length = 32) : qB [a, b] = xorL a (scaleL b 2) := by
  have h := q_split (N := 32) (a := [a]) (b := [b]) (by simp) (by simp) (fun r hr => by
    simp only [List.cons_append, List.nil_append, List.mem_cons, List.mem_nil_iff, or_false] at hr
    rcases hr with rfl | rfl <;> assumption)
  have one : ∀ y : List UInt8, y.length = 32 → qB [y] = y := fun y hy => by
    have := set_sum gQ_len (gQ_zero 32) (n := 1) (k := 0) (by omega) hy
    show sumG gQ [y] = y
    have e : (List.replicate 1 (zeroL 32)).set 0 y = [y] := rfl
    rw [e] at this
    rw [this]
    show scaleL y (gpow ((0 : Nat) : Int)) = y
    rw [show gpow ((0 : Nat) : Int) = 1 by decide +kernel, scaleL_one]
  rw [show [a] ++ [b] = [a, b] from rfl, one a ha, one b hb] at h
  rw [h, show gpow (([a] : List (List UInt8)).length : Int) = 2 from (show gpow ((1 : Nat) : Int) = 2 by decide +kernel), pB_two (by rw [scaleL_len, ha, hb])]
theorem refMul2 (x : UInt8) (w : World) : Calls Try.prog 9 #[.int .u8 (x.toNat : Int), .int .u8 2] w fun e w' => e = .returned (.int .u8 ((mulU x 2).toNat : Int)) ∧ w' = w := refMul_u8 x 2 (by omega) w
set_option maxRecDepth 100000 in
set_option maxHeartbeats 3200000 in
theorem rfAb {W0 : World} {ga gb gp gq B : Nat} {sa sb : List UInt8} {i : Nat} {w : World} (u0 u1 u2 u3 u4 u5 u6 u7 u12 u13 u14 u15 u16 u17 u18 u19 u20 u21 u22 u23 u24 u25 u26 u27 u28 u29 u30 u31 u32 u33 u34 u35 u36 u39 u40 u41 u42 u43 u44 u45 u46 u47 u48 u49 u50 u51 u52 u53 u54 u55 u56 u57 u58 u59 u60 u61 u62 u63 u64 u65 u66 u67 u68 u69 u70 u71 u72 u73 u74 u75 u76 u77 u78 u79 u80 u81 u82 u83 u84 u85 u86 u87 u88 u89 u90 u91 u92 u93 u94 u95 u96 u97 u98 u99 u100 u101 u102 u103 u104 u105 u106 u107 u108 u109 u110 u111 u112 u113 u114 u115 u116 u117 u118 u119 u120 u121 u122 u123 u124 u125 u126 u127 u128 u129 u130 u131 u132 u133 u134 u135 u136 u137 u138 u139 u140 u141 u142 u143 u144 u145 u146 u147 u148 u149 u150 u151 u152 u153 u154 u155 u156 u157 u158 u159 u160 u161 u162 u163 u164 u165 u166 u167 u168 u169 u170 u171 u172 u173 u174 u175 u176 u177 u178 u179 u180 u181 u182 u183 u184 u185 u186 u187 u188 u189 u190 u191 u192 u193 u194 u195 u196 u197 u198 u199 u200 u201 u202 u203 : Value) (K : Act → World → Prop) (Q0 : Exit → Act → World → Prop) (hoa : RdB W0 B (some ⟨ga, 0, none⟩) sa) (hob : RdB W0 B (some ⟨gb, 0, none⟩) sb) (hal : sa.length = 32) (hbl : sb.length = 32) (hpq : gp ≠ gq) (hB : B ≤ W0.heap.size) (hI : (i ≤ 32 ∧ OwB 5 w B (.slice (some ⟨gp, 0, none⟩) 32 32) (zTo (pB [sa, sb]) i) ∧ OwB 5 w B (.slice (some ⟨gq, 0, none⟩) 32 32) (zTo (qB [sa, sb]) i) ∧ Below B W0 w))
    (hK : ∀ (v12 v39 v40 v41 v42 v43 v44 v45 v46 v47 v48 v49 v50 v51 v52 v53 v54 v55 v56 v57 v58 v59 v60 v61 v62 v63 v64 v65 v66 : Value)  (V : World), ((i + 1) ≤ 32 ∧ OwB 5 V B (.slice (some ⟨gp, 0, none⟩) 32 32) (zTo (pB [sa, sb]) (i + 1)) ∧ OwB 5 V B (.slice (some ⟨gq, 0, none⟩) 32 32) (zTo (qB [sa, sb]) (i + 1)) ∧ Below B W0 V) → 32 - (i + 1) < 32 - i → K ⟨List.toArray (u0 :: u1 :: u2 :: u3 :: u4 :: u5 :: u6 :: u7 :: (.slice (some ⟨ga, 0, none⟩) 32 32) :: (.slice (some ⟨gb, 0, none⟩) 32 32) :: (.slice (some ⟨gp, 0, none⟩) 32 32) :: (.slice (some ⟨gq, 0, none⟩) 32 32) :: v12 :: u13 :: u14 :: u15 :: u16 :: u17 :: u18 :: u19 :: u20 :: u21 :: u22 :: u23 :: u24 :: u25 :: u26 :: u27 :: u28 :: u29 :: u30 :: u31 :: u32 :: u33 :: u34 :: u35 :: u36 :: (.int .i64 32) :: (.int .i64 (((i + 1) : Nat) : Int)) :: v39 :: v40 :: v41 :: v42 :: v43 :: v44 :: v45 :: v46 :: v47 :: v48 :: v49 :: v50 :: v51 :: v52 :: v53 :: v54 :: v55 :: v56 :: v57 :: v58 :: v59 :: v60 :: v61 :: v62 :: v63 :: v64 :: v65 :: v66 :: u67 :: u68 :: u69 :: u70 :: u71 :: u72 :: u73 :: u74 :: u75 :: u76 :: u77 :: u78 :: u79 :: u80 :: u81 :: u82 :: u83 :: u84 :: u85 :: u86 :: u87 :: u88 :: u89 :: u90 :: u91 :: u92 :: u93 :: u94 :: u95 :: u96 :: u97 :: u98 :: u99 :: u100 :: u101 :: u102 :: u103 :: u104 :: u105 :: u106 :: u107 :: u108 :: u109 :: u110 :: u111 :: u112 :: u113 :: u114 :: u115 :: u116 :: u117 :: u118 :: u119 :: u120 :: u121 :: u122 :: u123 :: u124 :: u125 :: u126 :: u127 :: u128 :: u129 :: u130 :: u131 :: u132 :: u133 :: u134 :: u135 :: u136 :: u137 :: u138 :: u139 :: u140 :: u141 :: u142 :: u143 :: u144 :: u145 :: u146 :: u147 :: u148 :: u149 :: u150 :: u151 :: u152 :: u153 :: u154 :: u155 :: u156 :: u157 :: u158 :: u159 :: u160 :: u161 :: u162 :: u163 :: u164 :: u165 :: u166 :: u167 :: u168 :: u169 :: u170 :: u171 :: u172 :: u173 :: u174 :: u175 :: u176 :: u177 :: u178 :: u179 :: u180 :: u181 :: u182 :: u183 :: u184 :: u185 :: u186 :: u187 :: u188 :: u189 :: u190 :: u191 :: u192 :: u193 :: u194 :: u195 :: u196 :: u197 :: u198 :: u199 :: u200 :: u201 :: u202 :: u203 :: []), []⟩ V)
    (hX : ∀ (v12 v39 v40 v41 v42 v43 v44 v45 v46 v47 v48 v49 v50 v51 v52 v53 v54 v55 v56 v57 v58 v59 v60 v61 v62 v63 v64 v65 v66 : Value), (i = 32) → Q0 (.exit 0) ⟨List.toArray (u0 :: u1 :: u2 :: u3 :: u4 :: u5 :: u6 :: u7 :: (.slice (some ⟨ga, 0, none⟩) 32 32) :: (.slice (some ⟨gb, 0, none⟩) 32 32) :: (.slice (some ⟨gp, 0, none⟩) 32 32) :: (.slice (some ⟨gq, 0, none⟩) 32 32) :: v12 :: u13 :: u14 :: u15 :: u16 :: u17 :: u18 :: u19 :: u20 :: u21 :: u22 :: u23 :: u24 :: u25 :: u26 :: u27 :: u28 :: u29 :: u30 :: u31 :: u32 :: u33 :: u34 :: u35 :: u36 :: (.int .i64 32) :: (.int .i64 ((i : Nat) : Int)) :: v39 :: v40 :: v41 :: v42 :: v43 :: v44 :: v45 :: v46 :: v47 :: v48 :: v49 :: v50 :: v51 :: v52 :: v53 :: v54 :: v55 :: v56 :: v57 :: v58 :: v59 :: v60 :: v61 :: v62 :: v63 :: v64 :: v65 :: v66 :: u67 :: u68 :: u69 :: u70 :: u71 :: u72 :: u73 :: u74 :: u75 :: u76 :: u77 :: u78 :: u79 :: u80 :: u81 :: u82 :: u83 :: u84 :: u85 :: u86 :: u87 :: u88 :: u89 :: u90 :: u91 :: u92 :: u93 :: u94 :: u95 :: u96 :: u97 :: u98 :: u99 :: u100 :: u101 :: u102 :: u103 :: u104 :: u105 :: u106 :: u107 :: u108 :: u109 :: u110 :: u111 :: u112 :: u113 :: u114 :: u115 :: u116 :: u117 :: u118 :: u119 :: u120 :: u121 :: u122 :: u123 :: u124 :: u125 :: u126 :: u127 :: u128 :: u129 :: u130 :: u131 :: u132 :: u133 :: u134 :: u135 :: u136 :: u137 :: u138 :: u139 :: u140 :: u141 :: u142 :: u143 :: u144 :: u145 :: u146 :: u147 :: u148 :: u149 :: u150 :: u151 :: u152 :: u153 :: u154 :: u155 :: u156 :: u157 :: u158 :: u159 :: u160 :: u161 :: u162 :: u163 :: u164 :: u165 :: u166 :: u167 :: u168 :: u169 :: u170 :: u171 :: u172 :: u173 :: u174 :: u175 :: u176 :: u177 :: u178 :: u179 :: u180 :: u181 :: u182 :: u183 :: u184 :: u185 :: u186 :: u187 :: u188 :: u189 :: u190 :: u191 :: u192 :: u193 :: u194 :: u195 :: u196 :: u197 :: u198 :: u199 :: u200 :: u201 :: u202 :: u203 :: []), []⟩ w) :
    Code.wp Try.prog (sub [1, 1, 1, 1, 0, 1, 0, 0] codeRF) (Exit.then K Q0) ⟨List.toArray (u0 :: u1 :: u2 :: u3 :: u4 :: u5 :: u6 :: u7 :: (.slice (some ⟨ga, 0, none⟩) 32 32) :: (.slice (some ⟨gb, 0, none⟩) 32 32) :: (.slice (some ⟨gp, 0, none⟩) 32 32) :: (.slice (some ⟨gq, 0, none⟩) 32 32) :: u12 :: u13 :: u14 :: u15 :: u16 :: u17 :: u18 :: u19 :: u20 :: u21 :: u22 :: u23 :: u24 :: u25 :: u26 :: u27 :: u28 :: u29 :: u30 :: u31 :: u32 :: u33 :: u34 :: u35 :: u36 :: (.int .i64 32) :: (.int .i64 ((i : Nat) : Int)) :: u39 :: u40 :: u41 :: u42 :: u43 :: u44 :: u45 :: u46 :: u47 :: u48 :: u49 :: u50 :: u51 :: u52 :: u53 :: u54 :: u55 :: u56 :: u57 :: u58 :: u59 :: u60 :: u61 :: u62 :: u63 :: u64 :: u65 :: u66 :: u67 :: u68 :: u69 :: u70 :: u71 :: u72 :: u73 :: u74 :: u75 :: u76 :: u77 :: u78 :: u79 :: u80 :: u81 :: u82 :: u83 :: u84 :: u85 :: u86 :: u87 :: u88 :: u89 :: u90 :: u91 :: u92 :: u93 :: u94 :: u95 :: u96 :: u97 :: u98 :: u99 :: u100 :: u101 :: u102 :: u103 :: u104 :: u105 :: u106 :: u107 :: u108 :: u109 :: u110 :: u111 :: u112 :: u113 :: u114 :: u115 :: u116 :: u117 :: u118 :: u119 :: u120 :: u121 :: u122 :: u123 :: u124 :: u125 :: u126 :: u127 :: u128 :: u129 :: u130 :: u131 :: u132 :: u133 :: u134 :: u135 :: u136 :: u137 :: u138 :: u139 :: u140 :: u141 :: u142 :: u143 :: u144 :: u145 :: u146 :: u147 :: u148 :: u149 :: u150 :: u151 :: u152 :: u153 :: u154 :: u155 :: u156 :: u157 :: u158 :: u159 :: u160 :: u161 :: u162 :: u163 :: u164 :: u165 :: u166 :: u167 :: u168 :: u169 :: u170 :: u171 :: u172 :: u173 :: u174 :: u175 :: u176 :: u177 :: u178 :: u179 :: u180 :: u181 :: u182 :: u183 :: u184 :: u185 :: u186 :: u187 :: u188 :: u189 :: u190 :: u191 :: u192 :: u193 :: u194 :: u195 :: u196 :: u197 :: u198 :: u199 :: u200 :: u201 :: u202 :: u203 :: []), []⟩ w := by
  have HK := Lib.hid hK
  have HX := Lib.hid hX
  clear hK hX
  conv => arg 2; whnf
  obtain ⟨hi, hp, hq, hb⟩ := hI
  have hpl : (pB [sa, sb]).length = 32 := by rw [pB_two (hal.trans hbl.symm), xorL_len, hal, hbl]; rfl
  have hql : (qB [sa, sb]).length = 32 := by rw [qB_two hal hbl, xorL_len, scaleL_len, hal, hbl]; rfl
  by_cases hlt : i < 32
  · have i0 : (0 : Int) ≤ (i : Int) := by omega
    have i1 : (i : Int) < 32 := by omega
    obtain ⟨ba, oa, ea, hba, hca⟩ := hoa.2 (by omega)
    obtain ⟨bb, ob, eb, hbb, hcb⟩ := hob.2 (by omega)
    injection ea with ea
    injection ea with ea ea2
    subst ea ea2
    injection eb with eb
    injection eb with eb eb2
    subst eb eb2
    have za : w.drew.cell? ⟨ga, i, none⟩ = some (.int .u8 ((sa.getD i 0).toNat : Int)) := by
      have := (hb.drew.cell (p := ⟨ga, i, none⟩) hba).trans (by simpa using hca i (by omega)); exact this
    have zb : w.drew.cell? ⟨gb, i, none⟩ = some (.int .u8 ((sb.getD i 0).toNat : Int)) := by
      have := (hb.drew.cell (p := ⟨gb, i, none⟩) hbb).trans (by simpa using hcb i (by omega)); exact this
    have hp1 := hp.below (Below.refl _ w).drew
    have hq1 := hq.below (Below.refl _ w).drew
    obtain ⟨zp, fp⟩ := hp1.cell (zTo_len hpl hi) i hlt
    obtain ⟨hp2, hg2⟩ := hp1.set (zTo_len hpl hi) i ((pB [sa, sb]).getD i 0)
    have hq2 := hq1.grown hg2 (.inr (by simp [Value.ownBlock]; exact fun e => hpq e.symm))
    obtain ⟨zq, fq⟩ := hq2.cell (zTo_len hql hi) i hlt
    obtain ⟨hq3, hg3⟩ := hq2.set (zTo_len hql hi) i ((qB [sa, sb]).getD i 0)
    have hp3 := hp2.grown hg3 (.inr (by simp [Value.ownBlock]; exact hpq))
    rw [zTo_succ hpl hlt] at hp3
    rw [zTo_succ hql hlt] at hq3
    have hgp := (hp.lt gp rfl)
    have hgq := (hq.lt gq rfl)
    have hb3 := (hb.drew.setCell (p := ⟨gp, i, none⟩) hgp.1 (.int .u8 (((pB [sa, sb]).getD i 0).toNat : Int))).setCell (p := ⟨gq, i, none⟩) hgq.1 (.int .u8 (((qB [sa, sb]).getD i 0).toNat : Int))
    have CM := Lib.hid (fun V => refMul2 (sb.getD i 0) V)
    have hpv : (pB [sa, sb]).getD i 0 = sa.getD i 0 ^^^ sb.getD i 0 := by rw [pB_two (hal.trans hbl.symm), xorL_get (by omega) (by omega)]
    have hqv : (qB [sa, sb]).getD i 0 = sa.getD i 0 ^^^ mulU (sb.getD i 0) 2 := by rw [qB_two hal hbl, xorL_get (by omega) (by rw [scaleL_len]; omega), scaleL_get]
    have ex1 := xor_u8 (sa.getD i 0) (sb.getD i 0)
    have ex2 := xor_u8 (sa.getD i 0) (mulU (sb.getD i 0) 2)
    rw [← hpv] at ex1
    rw [← hqv] at ex2
    have nap : (⟨ga, i, none⟩ : Addr).block ≠ gp := by show ga ≠ gp; omega
    have nbp : (⟨gb, i, none⟩ : Addr).block ≠ gp := by show gb ≠ gp; omega
    have naq : (⟨ga, i, none⟩ : Addr).block ≠ gq := by show ga ≠ gq; omega
    have nbq : (⟨gb, i, none⟩ : Addr).block ≠ gq := by show gb ≠ gq; omega
    have Hfin := Lib.hid (And.intro hp3 (And.intro hq3 hb3))
    generalize (pB [sa, sb]).getD i 0 = pv at ex1 Hfin hg2 zq fq
    generalize (qB [sa, sb]).getD i 0 = qv at ex2 Hfin
    generalize (zTo (pB [sa, sb]) i).getD i 0 = op at zp
    generalize (zTo (qB [sa, sb]) i).getD i 0 = oq at zq
    generalize mulU (sb.getD i 0) 2 = m at CM ex2
    generalize sa.getD i 0 = x at za ex1 ex2
    generalize sb.getD i 0 = z at zb ex1 CM
    clear HX hp hq hb hp1 hq1 hp2 hq2 hp3 hq3 hg2 hg3 hb3 hpv hqv hca hcb hoa hob hpl hql
    go_wp2_with fail
    refine wp_region_noPanic (region_ord 27 [] (fun V => V.cell? ⟨ga, i, none⟩ = some (.int .u8 (x.toNat : Int)) ∧ V.cell? ⟨gb, i, none⟩ = some (.int .u8 (z.toNat : Int))) (by kernel_rfl) (by kernel_rfl) (fun _ _ _ _ _ h => h) fun R => ?_)
    change anyI _ _ _ _ _ _ 27 _ _ w.drew
    have HS0 := Lib.hid (show (fun V => V.cell? ⟨ga, i, none⟩ = some (.int .u8 (x.toNat : Int)) ∧ V.cell? ⟨gb, i, none⟩ = some (.int .u8 (z.toNat : Int))) w.drew from ⟨za, zb⟩)
    obtain ⟨V0, hV0⟩ : ∃ V, w.drew = V := ⟨_, rfl⟩
    rw [hV0] at HS0 zp fp zq fq Hfin ⊢
    clear hV0
    have HSb := HS0
    refine' anyI_take R 0 rfl (v := ?_) (by kernel_rfl) (by rfl) (fun V hV => ?hy) HS0.out ?_
    case hy => ((try dsimp only at hV);  obtain ⟨y1, y2⟩ := hV; go_simp; try with_reducible rfl)
    try simp only [Act.put, List.getElem_toArray, List.getElem_cons_succ, List.getElem_cons_zero, List.setIfInBounds_toArray, List.set_cons_zero, List.set_cons_succ]
    refine' anyI_take R 1 rfl (v := ?_) (by kernel_rfl) (by rfl) (fun V hV => ?hy) HS0.out ?_
    case hy => ((try dsimp only at hV);  obtain ⟨y1, y2⟩ := hV; go_simp; try with_reducible rfl)
    try simp only [Act.put, List.getElem_toArray, List.getElem_cons_succ, List.getElem_cons_zero, List.setIfInBounds_toArray, List.set_cons_zero, List.set_cons_succ]
    refine' anyI_take R 2 rfl (v := ?_) (by kernel_rfl) (by rfl) (fun V hV => ?hy) HS0.out ?_
    case hy => ((try dsimp only at hV);  obtain ⟨y1, y2⟩ := hV; go_simp; try with_reducible rfl)
    try simp only [Act.put, List.getElem_toArray, List.getElem_cons_succ, List.getElem_cons_zero, List.setIfInBounds_toArray, List.set_cons_zero, List.set_cons_succ]
    refine' anyI_take R 3 rfl (v := ?_) (by kernel_rfl) (by rfl) (fun V hV => ?hy) HS0.out ?_
    case hy => ((try dsimp only at hV);  obtain ⟨y1, y2⟩ := hV; go_simp; try with_reducible rfl)
    try simp only [Act.put, List.getElem_toArray, List.getElem_cons_succ, List.getElem_cons_zero, List.setIfInBounds_toArray, List.set_cons_zero, List.set_cons_succ]
    refine' anyI_take R 4 rfl (v := ?_) (by kernel_rfl) (by rfl) (fun V hV => ?hy) HS0.out ?_
    case hy => ((try dsimp only at hV);  obtain ⟨y1, y2⟩ := hV; go_simp; try with_reducible rfl)
    try simp only [Act.put, List.getElem_toArray, List.getElem_cons_succ, List.getElem_cons_zero, List.setIfInBounds_toArray, List.set_cons_zero, List.set_cons_succ]
    refine' anyI_take R 5 rfl (v := ?_) (by kernel_rfl) (by rfl) (fun V hV => ?hy) HS0.out ?_
    case hy => ((try dsimp only at hV);  obtain ⟨y1, y2⟩ := hV; go_simp; try with_reducible rfl)
    try simp only [Act.put, List.getElem_toArray, List.getElem_cons_succ, List.getElem_cons_zero, List.setIfInBounds_toArray, List.set_cons_zero, List.set_cons_succ]
    refine' anyI_take R 6 rfl (v := ?_) (by kernel_rfl) (by rfl) (fun V hV => ?hy) HS0.out ?_
    case hy => ((try dsimp only at hV);  obtain ⟨y1, y2⟩ := hV; go_simp; try with_reducible rfl)
    try simp only [Act.put, List.getElem_toArray, List.getElem_cons_succ, List.getElem_cons_zero, List.setIfInBounds_toArray, List.set_cons_zero, List.set_cons_succ]
    refine' anyI_take R 7 rfl (v := ?_) (by kernel_rfl) (by rfl) (fun V hV => ?hy) HS0.out ?_
    case hy => ((try dsimp only at hV);  obtain ⟨y1, y2⟩ := hV; go_simp; try with_reducible rfl)
    try simp only [Act.put, List.getElem_toArray, List.getElem_cons_succ, List.getElem_cons_zero, List.setIfInBounds_toArray, List.set_cons_zero, List.set_cons_succ]
    refine' anyI_take R 8 rfl (v := ?_) (by kernel_rfl) (by rfl) (fun V hV => ?hy) HS0.out ?_
    case hy => ((try dsimp only at hV);  obtain ⟨y1, y2⟩ := hV; go_simp; try with_reducible rfl)
    try simp only [Act.put, List.getElem_toArray, List.getElem_cons_succ, List.getElem_cons_zero, List.setIfInBounds_toArray, List.set_cons_zero, List.set_cons_succ]
    refine' anyI_take R 9 rfl (v := ?_) (by kernel_rfl) (by rfl) (fun V hV => ?hy) HS0.out ?_
    case hy => ((try dsimp only at hV);  obtain ⟨y1, y2⟩ := hV; go_simp; try with_reducible rfl)
    try simp only [Act.put, List.getElem_toArray, List.getElem_cons_succ, List.getElem_cons_zero, List.setIfInBounds_toArray, List.set_cons_zero, List.set_cons_succ]
    refine' anyI_take R 10 rfl (v := ?_) (by kernel_rfl) (by rfl) (fun V hV => ?hy) HS0.out ?_
    case hy => ((try dsimp only at hV);  obtain ⟨y1, y2⟩ := hV; go_simp; try with_reducible rfl)
    try simp only [Act.put, List.getElem_toArray, List.getElem_cons_succ, List.getElem_cons_zero, List.setIfInBounds_toArray, List.set_cons_zero, List.set_cons_succ]
    refine' anyI_take R 11 rfl (v := ?_) (by kernel_rfl) (by rfl) (fun V hV => ?hy) HS0.out ?_
    case hy => ((try dsimp only at hV);  obtain ⟨y1, y2⟩ := hV; go_simp; try with_reducible rfl)
    try simp only [Act.put, List.getElem_toArray, List.getElem_cons_succ, List.getElem_cons_zero, List.setIfInBounds_toArray, List.set_cons_zero, List.set_cons_succ]
    refine' anyI_take R 12 rfl (v := ?_) (by kernel_rfl) (by rfl) (fun V hV => ?hy) HS0.out ?_
    case hy => ((try dsimp only at hV);  obtain ⟨y1, y2⟩ := hV; go_simp; try with_reducible rfl)
    try simp only [Act.put, List.getElem_toArray, List.getElem_cons_succ, List.getElem_cons_zero, List.setIfInBounds_toArray, List.set_cons_zero, List.set_cons_succ]
    refine' anyI_take R 13 rfl (v := ?_) (by kernel_rfl) (by rfl) (fun V hV => ?hy) HS0.out ?_
    case hy => ((try dsimp only at hV);  obtain ⟨y1, y2⟩ := hV; go_simp; try with_reducible rfl)
    try simp only [Act.put, List.getElem_toArray, List.getElem_cons_succ, List.getElem_cons_zero, List.setIfInBounds_toArray, List.set_cons_zero, List.set_cons_succ]
    refine' anyI_take R 14 rfl (v := ?_) (by kernel_rfl) (by rfl) (fun V hV => ?hy) HS0.out ?_
    case hy => ((try dsimp only at hV);  obtain ⟨y1, y2⟩ := hV; go_simp; try with_reducible rfl)
    try simp only [Act.put, List.getElem_toArray, List.getElem_cons_succ, List.getElem_cons_zero, List.setIfInBounds_toArray, List.set_cons_zero, List.set_cons_succ]
    refine' anyI_take R 15 rfl (v := ?_) (by kernel_rfl) (by rfl) (fun V hV => ?hy) HS0.out ?_
    case hy => ((try dsimp only at hV);  obtain ⟨y1, y2⟩ := hV; go_simp; try with_reducible rfl)
    try simp only [Act.put, List.getElem_toArray, List.getElem_cons_succ, List.getElem_cons_zero, List.setIfInBounds_toArray, List.set_cons_zero, List.set_cons_succ]
    refine' anyI_take R 16 rfl (v := ?_) (by kernel_rfl) (by rfl) (fun V hV => ?hy) HS0.out ?_
    case hy => ((try dsimp only at hV);  obtain ⟨y1, y2⟩ := hV; go_simp; try with_reducible rfl)
    try simp only [Act.put, List.getElem_toArray, List.getElem_cons_succ, List.getElem_cons_zero, List.setIfInBounds_toArray, List.set_cons_zero, List.set_cons_succ]
    refine' anyI_take R 17 rfl (v := ?_) (by kernel_rfl) (by rfl) (fun V hV => ?hy) HS0.out ?_
    case hy => ((try dsimp only at hV);  obtain ⟨y1, y2⟩ := hV; go_simp; try with_reducible rfl)
    try simp only [Act.put, List.getElem_toArray, List.getElem_cons_succ, List.getElem_cons_zero, List.setIfInBounds_toArray, List.set_cons_zero, List.set_cons_succ]
    refine' anyI_take R 18 rfl (v := ?_) (by kernel_rfl) (by rfl) (fun V hV => ?hy) HS0.out ?_
    case hy => ((try dsimp only at hV);  obtain ⟨y1, y2⟩ := hV; go_simp; try with_reducible rfl)
    try simp only [Act.put, List.getElem_toArray, List.getElem_cons_succ, List.getElem_cons_zero, List.setIfInBounds_toArray, List.set_cons_zero, List.set_cons_succ]
    refine' anyI_take R 19 rfl (v := ?_) (by kernel_rfl) (by rfl) (fun V hV => ?hy) HS0.out ?_
    case hy => ((try dsimp only at hV);  obtain ⟨y1, y2⟩ := hV; go_simp; try with_reducible rfl)
    try simp only [Act.put, List.getElem_toArray, List.getElem_cons_succ, List.getElem_cons_zero, List.setIfInBounds_toArray, List.set_cons_zero, List.set_cons_succ]
    refine' anyI_take R 20 rfl (v := ?_) (by kernel_rfl) (by rfl) (fun V hV => ?hy) HS0.out ?_
    case hy => ((try dsimp only at hV);  obtain ⟨y1, y2⟩ := hV; go_simp; try with_reducible rfl)
    try simp only [Act.put, List.getElem_toArray, List.getElem_cons_succ, List.getElem_cons_zero, List.setIfInBounds_toArray, List.set_cons_zero, List.set_cons_succ]
    refine anyI_one 21 (by kernel_rfl) rfl ?_
    try simp only [List.getElem_toArray, List.getElem_cons_succ, List.getElem_cons_zero]
    refine opE_step ?_
    rw [if_pos (by rfl)]
    go_simp
    go_at_call 9
    refine (CM.out _).mono ?_
    rintro e w21 ⟨rfl, hw21⟩
    subst hw21
    try dsimp only
    refine ⟨HS0.out, ?_⟩
    try simp only [Act.put, List.getElem_toArray, List.getElem_cons_succ, List.getElem_cons_zero, List.setIfInBounds_toArray, List.set_cons_zero, List.set_cons_succ]
    refine' anyI_take R 22 rfl (v := ?_) (by kernel_rfl) (by rfl) (fun V hV => ?hy) HS0.out ?_
    case hy => ((try dsimp only at hV);  obtain ⟨y1, y2⟩ := hV; go_simp; try with_reducible rfl)
    try simp only [Act.put, List.getElem_toArray, List.getElem_cons_succ, List.getElem_cons_zero, List.setIfInBounds_toArray, List.set_cons_zero, List.set_cons_succ]
    refine' anyI_take R 23 rfl (v := ?_) (by kernel_rfl) (by rfl) (fun V hV => ?hy) HS0.out ?_
    case hy => ((try dsimp only at hV);  obtain ⟨y1, y2⟩ := hV; go_simp; try with_reducible rfl)
    try simp only [Act.put, List.getElem_toArray, List.getElem_cons_succ, List.getElem_cons_zero, List.setIfInBounds_toArray, List.set_cons_zero, List.set_cons_succ]
    refine anyI_one 24 (by kernel_rfl) rfl ?_
    try simp only [List.getElem_toArray, List.getElem_cons_succ, List.getElem_cons_zero]
    refine opE_step ?_
    rw [if_pos (by rfl)]
    go_simp
    have HS3 := Lib.hid (show (fun V : World => V.cell? ⟨ga, i, none⟩ = some (.int .u8 (x.toNat : Int)) ∧ V.cell? ⟨gb, i, none⟩ = some (.int .u8 (z.toNat : Int))) (w21.setCell ⟨gp, i, none⟩ (.int .u8 (pv.toNat : Int))) from ⟨(set_other nap).trans HS0.out.1, (set_other nbp).trans HS0.out.2⟩)
    try dsimp only
    refine ⟨HSb.out, ?_⟩
    replace HS0 := HS3
    try simp only [Act.put, List.getElem_toArray, List.getElem_cons_succ, List.getElem_cons_zero, List.setIfInBounds_toArray, List.set_cons_zero, List.set_cons_succ]
    refine' anyI_take R 25 rfl (v := ?_) (by kernel_rfl) (by rfl) (fun V hV => ?hy) HS0.out ?_
    case hy => ((try dsimp only at hV);  obtain ⟨y1, y2⟩ := hV; go_simp; try with_reducible rfl)
    try simp only [Act.put, List.getElem_toArray, List.getElem_cons_succ, List.getElem_cons_zero, List.setIfInBounds_toArray, List.set_cons_zero, List.set_cons_succ]
    refine anyI_one 26 (by kernel_rfl) rfl ?_
    try simp only [List.getElem_toArray, List.getElem_cons_succ, List.getElem_cons_zero]
    refine opE_step ?_
    rw [if_pos (by rfl)]
    go_simp
    have HS4 := Lib.hid (show (fun V : World => V.cell? ⟨ga, i, none⟩ = some (.int .u8 (x.toNat : Int)) ∧ V.cell? ⟨gb, i, none⟩ = some (.int .u8 (z.toNat : Int))) ((w21.setCell ⟨gp, i, none⟩ (.int .u8 (pv.toNat : Int))).setCell ⟨gq, i, none⟩ (.int .u8 (qv.toNat : Int))) from ⟨(set_other naq).trans HS0.out.1, (set_other nbq).trans HS0.out.2⟩)
    try dsimp only
    refine ⟨HSb.out, ?_⟩
    replace HS0 := HS4
    try simp only [Act.put, List.getElem_toArray, List.getElem_cons_succ, List.getElem_cons_zero, List.setIfInBounds_toArray, List.set_cons_zero, List.set_cons_succ]
    refine anyI_tail (by kernel_rfl) ?_
    try simp only [List.drop_succ_cons, List.drop_zero]
    clear R
    go_wp2_with fail
    refine NoPanic.normal ?_
    go_wp2_with fail
    exact HK.out _ _ _ _ _ _ _ _ _ _ _ _ _ _ _ _ _ _ _ _ _ _ _ _ _ _ _ _ _ _ ⟨by omega, Hfin.out.1, Hfin.out.2.1, Hfin.out.2.2⟩ (by omega)
  · have i1 : ¬ (i : Int) < 32 := by omega
    have Hin := Lib.hid (show i = 32 by omega)
    clear HK hoa hob hp hq hb
    go_wp2_with fail
    exact HX.out _ _ _ _ _ _ _ _ _ _ _ _ _ _ _ _ _ _ _ _ _ _ _ _ _ _ _ _ _ Hin.out
set_option maxRecDepth 100000 in
set_option maxHeartbeats 3200000 in
theorem rfA {W0 : World} {ga gb gp gq B : Nat} {sa sb : List UInt8}  {w : World} (u0 u1 u2 u3 u4 u5 u6 u7 u12 u13 u14 u15 u16 u17 u18 u19 u20 u21 u22 u23 u24 u25 u26 u27 u28 u29 u30 u31 u32 u33 u34 u35 u36 u39 u40 u41 u42 u43 u44 u45 u46 u47 u48 u49 u50 u51 u52 u53 u54 u55 u56 u57 u58 u59 u60 u61 u62 u63 u64 u65 u66 u67 u68 u69 u70 u71 u72 u73 u74 u75 u76 u77 u78 u79 u80 u81 u82 u83 u84 u85 u86 u87 u88 u89 u90 u91 u92 u93 u94 u95 u96 u97 u98 u99 u100 u101 u102 u103 u104 u105 u106 u107 u108 u109 u110 u111 u112 u113 u114 u115 u116 u117 u118 u119 u120 u121 u122 u123 u124 u125 u126 u127 u128 u129 u130 u131 u132 u133 u134 u135 u136 u137 u138 u139 u140 u141 u142 u143 u144 u145 u146 u147 u148 u149 u150 u151 u152 u153 u154 u155 u156 u157 u158 u159 u160 u161 u162 u163 u164 u165 u166 u167 u168 u169 u170 u171 u172 u173 u174 u175 u176 u177 u178 u179 u180 u181 u182 u183 u184 u185 u186 u187 u188 u189 u190 u191 u192 u193 u194 u195 u196 u197 u198 u199 u200 u201 u202 u203 : Value) (Q : Exit → Act → World → Prop) (hoa : RdB W0 B (some ⟨ga, 0, none⟩) sa) (hob : RdB W0 B (some ⟨gb, 0, none⟩) sb) (hal : sa.length = 32) (hbl : sb.length = 32) (hpq : gp ≠ gq) (hB : B ≤ W0.heap.size) (hI : (0 ≤ 32 ∧ OwB 5 w B (.slice (some ⟨gp, 0, none⟩) 32 32) (zTo (pB [sa, sb]) 0) ∧ OwB 5 w B (.slice (some ⟨gq, 0, none⟩) 32 32) (zTo (qB [sa, sb]) 0) ∧ Below B W0 w))
    (hX : ∀ (v12 v39 v40 v41 v42 v43 v44 v45 v46 v47 v48 v49 v50 v51 v52 v53 v54 v55 v56 v57 v58 v59 v60 v61 v62 v63 v64 v65 v66 : Value) (i : Nat) (V : World), (i ≤ 32 ∧ OwB 5 V B (.slice (some ⟨gp, 0, none⟩) 32 32) (zTo (pB [sa, sb]) i) ∧ OwB 5 V B (.slice (some ⟨gq, 0, none⟩) 32 32) (zTo (qB [sa, sb]) i) ∧ Below B W0 V) → (i = 32) → Q (.exit 0) ⟨List.toArray (u0 :: u1 :: u2 :: u3 :: u4 :: u5 :: u6 :: u7 :: (.slice (some ⟨ga, 0, none⟩) 32 32) :: (.slice (some ⟨gb, 0, none⟩) 32 32) :: (.slice (some ⟨gp, 0, none⟩) 32 32) :: (.slice (some ⟨gq, 0, none⟩) 32 32) :: v12 :: u13 :: u14 :: u15 :: u16 :: u17 :: u18 :: u19 :: u20 :: u21 :: u22 :: u23 :: u24 :: u25 :: u26 :: u27 :: u28 :: u29 :: u30 :: u31 :: u32 :: u33 :: u34 :: u35 :: u36 :: (.int .i64 32) :: (.int .i64 ((i : Nat) : Int)) :: v39 :: v40 :: v41 :: v42 :: v43 :: v44 :: v45 :: v46 :: v47 :: v48 :: v49 :: v50 :: v51 :: v52 :: v53 :: v54 :: v55 :: v56 :: v57 :: v58 :: v59 :: v60 :: v61 :: v62 :: v63 :: v64 :: v65 :: v66 :: u67 :: u68 :: u69 :: u70 :: u71 :: u72 :: u73 :: u74 :: u75 :: u76 :: u77 :: u78 :: u79 :: u80 :: u81 :: u82 :: u83 :: u84 :: u85 :: u86 :: u87 :: u88 :: u89 :: u90 :: u91 :: u92 :: u93 :: u94 :: u95 :: u96 :: u97 :: u98 :: u99 :: u100 :: u101 :: u102 :: u103 :: u104 :: u105 :: u106 :: u107 :: u108 :: u109 :: u110 :: u111 :: u112 :: u113 :: u114 :: u115 :: u116 :: u117 :: u118 :: u119 :: u120 :: u121 :: u122 :: u123 :: u124 :: u125 :: u126 :: u127 :: u128 :: u129 :: u130 :: u131 :: u132 :: u133 :: u134 :: u135 :: u136 :: u137 :: u138 :: u139 :: u140 :: u141 :: u142 :: u143 :: u144 :: u145 :: u146 :: u147 :: u148 :: u149 :: u150 :: u151 :: u152 :: u153 :: u154 :: u155 :: u156 :: u157 :: u158 :: u159 :: u160 :: u161 :: u162 :: u163 :: u164 :: u165 :: u166 :: u167 :: u168 :: u169 :: u170 :: u171 :: u172 :: u173 :: u174 :: u175 :: u176 :: u177 :: u178 :: u179 :: u180 :: u181 :: u182 :: u183 :: u184 :: u185 :: u186 :: u187 :: u188 :: u189 :: u190 :: u191 :: u192 :: u193 :: u194 :: u195 :: u196 :: u197 :: u198 :: u199 :: u200 :: u201 :: u202 :: u203 :: []), []⟩ V) :
    Code.wp Try.prog (.loop (sub [1, 1, 1, 1, 0, 1, 0, 0] codeRF)) Q ⟨List.toArray (u0 :: u1 :: u2 :: u3 :: u4 :: u5 :: u6 :: u7 :: (.slice (some ⟨ga, 0, none⟩) 32 32) :: (.slice (some ⟨gb, 0, none⟩) 32 32) :: (.slice (some ⟨gp, 0, none⟩) 32 32) :: (.slice (some ⟨gq, 0, none⟩) 32 32) :: u12 :: u13 :: u14 :: u15 :: u16 :: u17 :: u18 :: u19 :: u20 :: u21 :: u22 :: u23 :: u24 :: u25 :: u26 :: u27 :: u28 :: u29 :: u30 :: u31 :: u32 :: u33 :: u34 :: u35 :: u36 :: (.int .i64 32) :: (.int .i64 ((0 : Nat) : Int)) :: u39 :: u40 :: u41 :: u42 :: u43 :: u44 :: u45 :: u46 :: u47 :: u48 :: u49 :: u50 :: u51 :: u52 :: u53 :: u54 :: u55 :: u56 :: u57 :: u58 :: u59 :: u60 :: u61 :: u62 :: u63 :: u64 :: u65 :: u66 :: u67 :: u68 :: u69 :: u70 :: u71 :: u72 :: u73 :: u74 :: u75 :: u76 :: u77 :: u78 :: u79 :: u80 :: u81 :: u82 :: u83 :: u84 :: u85 :: u86 :: u87 :: u88 :: u89 :: u90 :: u91 :: u92 :: u93 :: u94 :: u95 :: u96 :: u97 :: u98 :: u99 :: u100 :: u101 :: u102 :: u103 :: u104 :: u105 :: u106 :: u107 :: u108 :: u109 :: u110 :: u111 :: u112 :: u113 :: u114 :: u115 :: u116 :: u117 :: u118 :: u119 :: u120 :: u121 :: u122 :: u123 :: u124 :: u125 :: u126 :: u127 :: u128 :: u129 :: u130 :: u131 :: u132 :: u133 :: u134 :: u135 :: u136 :: u137 :: u138 :: u139 :: u140 :: u141 :: u142 :: u143 :: u144 :: u145 :: u146 :: u147 :: u148 :: u149 :: u150 :: u151 :: u152 :: u153 :: u154 :: u155 :: u156 :: u157 :: u158 :: u159 :: u160 :: u161 :: u162 :: u163 :: u164 :: u165 :: u166 :: u167 :: u168 :: u169 :: u170 :: u171 :: u172 :: u173 :: u174 :: u175 :: u176 :: u177 :: u178 :: u179 :: u180 :: u181 :: u182 :: u183 :: u184 :: u185 :: u186 :: u187 :: u188 :: u189 :: u190 :: u191 :: u192 :: u193 :: u194 :: u195 :: u196 :: u197 :: u198 :: u199 :: u200 :: u201 :: u202 :: u203 :: []), []⟩ w := by
  refine wp_loop_ghost (fun gk a V => ∀ C : Prop, (∀ (u12 u39 u40 u41 u42 u43 u44 u45 u46 u47 u48 u49 u50 u51 u52 u53 u54 u55 u56 u57 u58 u59 u60 u61 u62 u63 u64 u65 u66 : Value) (i : Nat), gk = 32 - i → (i ≤ 32 ∧ OwB 5 V B (.slice (some ⟨gp, 0, none⟩) 32 32) (zTo (pB [sa, sb]) i) ∧ OwB 5 V B (.slice (some ⟨gq, 0, none⟩) 32 32) (zTo (qB [sa, sb]) i) ∧ Below B W0 V) → a = ⟨List.toArray (u0 :: u1 :: u2 :: u3 :: u4 :: u5 :: u6 :: u7 :: (.slice (some ⟨ga, 0, none⟩) 32 32) :: (.slice (some ⟨gb, 0, none⟩) 32 32) :: (.slice (some ⟨gp, 0, none⟩) 32 32) :: (.slice (some ⟨gq, 0, none⟩) 32 32) :: u12 :: u13 :: u14 :: u15 :: u16 :: u17 :: u18 :: u19 :: u20 :: u21 :: u22 :: u23 :: u24 :: u25 :: u26 :: u27 :: u28 :: u29 :: u30 :: u31 :: u32 :: u33 :: u34 :: u35 :: u36 :: (.int .i64 32) :: (.int .i64 ((i : Nat) : Int)) :: u39 :: u40 :: u41 :: u42 :: u43 :: u44 :: u45 :: u46 :: u47 :: u48 :: u49 :: u50 :: u51 :: u52 :: u53 :: u54 :: u55 :: u56 :: u57 :: u58 :: u59 :: u60 :: u61 :: u62 :: u63 :: u64 :: u65 :: u66 :: u67 :: u68 :: u69 :: u70 :: u71 :: u72 :: u73 :: u74 :: u75 :: u76 :: u77 :: u78 :: u79 :: u80 :: u81 :: u82 :: u83 :: u84 :: u85 :: u86 :: u87 :: u88 :: u89 :: u90 :: u91 :: u92 :: u93 :: u94 :: u95 :: u96 :: u97 :: u98 :: u99 :: u100 :: u101 :: u102 :: u103 :: u104 :: u105 :: u106 :: u107 :: u108 :: u109 :: u110 :: u111 :: u112 :: u113 :: u114 :: u115 :: u116 :: u117 :: u118 :: u119 :: u120 :: u121 :: u122 :: u123 :: u124 :: u125 :: u126 :: u127 :: u128 :: u129 :: u130 :: u131 :: u132 :: u133 :: u134 :: u135 :: u136 :: u137 :: u138 :: u139 :: u140 :: u141 :: u142 :: u143 :: u144 :: u145 :: u146 :: u147 :: u148 :: u149 :: u150 :: u151 :: u152 :: u153 :: u154 :: u155 :: u156 :: u157 :: u158 :: u159 :: u160 :: u161 :: u162 :: u163 :: u164 :: u165 :: u166 :: u167 :: u168 :: u169 :: u170 :: u171 :: u172 :: u173 :: u174 :: u175 :: u176 :: u177 :: u178 :: u179 :: u180 :: u181 :: u182 :: u183 :: u184 :: u185 :: u186 :: u187 :: u188 :: u189 :: u190 :: u191 :: u192 :: u193 :: u194 :: u195 :: u196 :: u197 :: u198 :: u199 :: u200 :: u201 :: u202 :: u203 :: []), []⟩ → C) → C) (32 - 0) ?_ ?_
  · intro C hC
    exact hC _ _ _ _ _ _ _ _ _ _ _ _ _ _ _ _ _ _ _ _ _ _ _ _ _ _ _ _ _ (0) rfl hI rfl
  · intro gk a V hI'
    refine hI' _ ?_
    intro u12 u39 u40 u41 u42 u43 u44 u45 u46 u47 u48 u49 u50 u51 u52 u53 u54 u55 u56 u57 u58 u59 u60 u61 u62 u63 u64 u65 u66 i hk hinv ha
    subst ha
    subst hk
    refine rfAb _ _ _ _ _ _ _ _ _ _ _ _ _ _ _ _ _ _ _ _ _ _ _ _ _ _ _ _ _ _ _ _ _ _ _ _ _ _ _ _ _ _ _ _ _ _ _ _ _ _ _ _ _ _ _ _ _ _ _ _ _ _ _ _ _ _ _ _ _ _ _ _ _ _ _ _ _ _ _ _ _ _ _ _ _ _ _ _ _ _ _ _ _ _ _ _ _ _ _ _ _ _ _ _ _ _ _ _ _ _ _ _ _ _ _ _ _ _ _ _ _ _ _ _ _ _ _ _ _ _ _ _ _ _ _ _ _ _ _ _ _ _ _ _ _ _ _ _ _ _ _ _ _ _ _ _ _ _ _ _ _ _ _ _ _ _ _ _ _ _ _ _ _ _ _ _ _ _ _ _ _ _ _ _ _ _ _ _ _ _ _ _ _ _ _ _ _ _ _ _ hoa hob hal hbl hpq hB hinv (fun v12 v39 v40 v41 v42 v43 v44 v45 v46 v47 v48 v49 v50 v51 v52 v53 v54 v55 v56 v57 v58 v59 v60 v61 v62 v63 v64 v65 v66  V2 h2 hm => ?_) (fun v12 v39 v40 v41 v42 v43 v44 v45 v46 v47 v48 v49 v50 v51 v52 v53 v54 v55 v56 v57 v58 v59 v60 v61 v62 v63 v64 v65 v66 hx => hX v12 v39 v40 v41 v42 v43 v44 v45 v46 v47 v48 v49 v50 v51 v52 v53 v54 v55 v56 v57 v58 v59 v60 v61 v62 v63 v64 v65 v66 i V hinv hx)
    refine ⟨_, hm, fun C hC => ?_⟩
    exact hC v12 v39 v40 v41 v42 v43 v44 v45 v46 v47 v48 v49 v50 v51 v52 v53 v54 v55 v56 v57 v58 v59 v60 v61 v62 v63 v64 v65 v66 ((i + 1)) rfl h2 rfl
end Go.Proofs.Ytbojmofkhkegmaa
