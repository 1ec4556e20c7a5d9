/- Texts put together: UpdateDoesC, UpdateDoesD. -/
import Derived.Test.YtenkkdnepmoihaaGreatDoorUdbn
import Derived.Test.YtenkkdnepmoihaaGreatDoorUdbo
import Derived.Maps.RangeWalk
section
set_option maxRecDepth 20000
set_option linter.unusedVariables false
set_option linter.unusedSimpArgs false
namespace Go.Proofs.YtenkkdnepmoihaaGreatDoor
open Go.RowKit

theorem tdiv3_bd {z : Int} (h : -9223372036854775808 ≤ z ∧ z ≤ 9223372036854775807) : -9223372036854775808 ≤ z.tdiv 3 ∧ z.tdiv 3 ≤ 9223372036854775807 := by
  rcases Int.le_total 0 z with h0 | h0
  · rw [Int.tdiv_eq_ediv_of_nonneg h0]; omega
  · have e : z.tdiv 3 = -((-z) / 3) := by
      rw [← Int.tdiv_eq_ediv_of_nonneg (by omega), Int.neg_tdiv, Int.neg_neg]
    rw [e]; omega
set_option maxRecDepth 100000 in
set_option maxHeartbeats 3200000 in
theorem udP {W0 : World} {l c z pn : Int} {D gb i ln bB off cm b : Nat} {x : List UInt8} {KL : List (Nat × Obj)} {S : List (Option Addr × List UInt8)} {H : BH} {N : Bch} {w : World} (u0 u1 u3 u4 u5 u6 u7 u8 u10 u11 u12 u13 u14 u15 u16 u17 u19 u20 u21 u22 u23 u24 u25 u26 u27 u28 u29 u30 u31 u32 u33 u34 u35 u36 u37 u38 u39 u40 u41 u42 u43 u44 u45 u46 u47 u48 u49 u50 u51 u52 u53 u54 u55 u56 u57 u58 u59 u60 u61 u62 u63 u64 u65 u66 u67 u68 u69 u70 u71 u72 u73 u74 u75 u76 u77 u78 u79 u80 u81 u82 u83 u84 u85 u86 u87 u88 u89 u90 u91 u92 u93 u94 u95 u96 u97 u98 u99 u100 u101 u102 u103 u104 u105 u106 u107 u108 u109 u110 u111 u112 u113 u114 u115 u116 u117 u118 u119 u120 u121 u122 u123 u124 u125 u126 u127 u128 u129 u130 u131 u132 u133 u134 u135 u136 u137 u138 u139 u140 u141 u142 u143 u144 u145 u146 u147 u148 u149 u150 u151 u152 u153 u154 u155 u156 u157 u158 u159 u160 u161 u162 u163 u164 u165 u166 u167 u168 u169 u170 u171 u172 u173 u174 u175 u176 u177 u178 u179 u180 u181 u182 u183 u184 u185 u186 u187 u188 : Value) (K : Act → World → Prop) (Q0 : Exit → Act → World → Prop) (hk : KS W0 w b H N KL [] S) (hG : (gb, Obj.cells #[.int .i64 l, .int .i64 (D : Int), .int .i64 c] 24 (0, 0)) ∈ KL) (hi : i < ln) (hi20 : i < 20) (hln : ln ≤ 9223372036854775807) (hbb : bB < W0.heap.size) (hcz : W0.cell? ⟨bB, off + i, none⟩ = some (.int .i64 z)) (hz : (-9223372036854775808 ≤ z ∧ z ≤ 9223372036854775807)) (L1 : (-9223372036854775808 ≤ l ∧ l ≤ 9223372036854775807)) (L2 : (-9223372036854775808 ≤ (D : Int) ∧ (D : Int) ≤ 9223372036854775807)) (L3 : (-9223372036854775808 ≤ c ∧ c ≤ 9223372036854775807)) (hcap : 0 < gCap l (D : Int) c) (hat : withinI z (gCap l (D : Int) c) = pn) (hxe : sectorB (z.tdiv 3) = x)
    (hK : ∀ (v88 v89 v90 v91 v92 v93 v94 v95 v96 v97 v98 v99 v100 : Value) (gx : Nat) (V : World), KS W0 V b H N KL [] ((some ⟨gx, 0, none⟩, x) :: S) → w.heap.size ≤ gx → w.heap.size ≤ V.heap.size → K ⟨List.toArray (u0 :: u1 :: (.slice (some ⟨bB, off, none⟩) ln cm) :: u3 :: u4 :: u5 :: u6 :: u7 :: u8 :: (.pointer (some ⟨gb, 0, none⟩)) :: u10 :: u11 :: u12 :: u13 :: u14 :: u15 :: u16 :: u17 :: (.int .i64 (i : Int)) :: (.int .i64 pn) :: (.slice (some ⟨gx, 0, none⟩) 32 32) :: u21 :: u22 :: u23 :: u24 :: u25 :: u26 :: u27 :: u28 :: u29 :: u30 :: u31 :: u32 :: u33 :: u34 :: u35 :: u36 :: u37 :: u38 :: u39 :: u40 :: u41 :: u42 :: u43 :: u44 :: u45 :: u46 :: u47 :: u48 :: u49 :: u50 :: u51 :: u52 :: u53 :: u54 :: u55 :: u56 :: u57 :: u58 :: u59 :: u60 :: u61 :: u62 :: u63 :: u64 :: u65 :: u66 :: u67 :: u68 :: u69 :: u70 :: u71 :: u72 :: u73 :: u74 :: u75 :: u76 :: u77 :: u78 :: u79 :: u80 :: u81 :: u82 :: u83 :: u84 :: u85 :: u86 :: u87 :: v88 :: v89 :: v90 :: v91 :: v92 :: v93 :: v94 :: v95 :: v96 :: v97 :: v98 :: v99 :: v100 :: u101 :: u102 :: u103 :: u104 :: u105 :: u106 :: u107 :: u108 :: u109 :: u110 :: u111 :: u112 :: u113 :: u114 :: u115 :: u116 :: u117 :: u118 :: u119 :: u120 :: u121 :: u122 :: u123 :: u124 :: u125 :: u126 :: u127 :: u128 :: u129 :: u130 :: u131 :: u132 :: u133 :: u134 :: u135 :: u136 :: u137 :: u138 :: u139 :: u140 :: u141 :: u142 :: u143 :: u144 :: u145 :: u146 :: u147 :: u148 :: u149 :: u150 :: u151 :: u152 :: u153 :: u154 :: u155 :: u156 :: u157 :: u158 :: u159 :: u160 :: u161 :: u162 :: u163 :: u164 :: u165 :: u166 :: u167 :: u168 :: u169 :: u170 :: u171 :: u172 :: u173 :: u174 :: u175 :: u176 :: u177 :: u178 :: u179 :: u180 :: u181 :: u182 :: u183 :: u184 :: u185 :: u186 :: u187 :: u188 :: []), []⟩ V) :
    Code.wp Tryz.prog (sub [1, 1, 1, 1, 1, 1, 1, 1, 0, 1, 0, 0, 1, 0, 0, 0] codeUD) (Exit.then K Q0) ⟨List.toArray (u0 :: u1 :: (.slice (some ⟨bB, off, none⟩) ln cm) :: u3 :: u4 :: u5 :: u6 :: u7 :: u8 :: (.pointer (some ⟨gb, 0, none⟩)) :: u10 :: u11 :: u12 :: u13 :: u14 :: u15 :: u16 :: u17 :: (.int .i64 (i : Int)) :: u19 :: u20 :: u21 :: u22 :: u23 :: u24 :: u25 :: u26 :: u27 :: u28 :: u29 :: u30 :: u31 :: u32 :: u33 :: u34 :: u35 :: u36 :: u37 :: u38 :: u39 :: u40 :: u41 :: u42 :: u43 :: u44 :: u45 :: u46 :: u47 :: u48 :: u49 :: u50 :: u51 :: u52 :: u53 :: u54 :: u55 :: u56 :: u57 :: u58 :: u59 :: u60 :: u61 :: u62 :: u63 :: u64 :: u65 :: u66 :: u67 :: u68 :: u69 :: u70 :: u71 :: u72 :: u73 :: u74 :: u75 :: u76 :: u77 :: u78 :: u79 :: u80 :: u81 :: u82 :: u83 :: u84 :: u85 :: u86 :: u87 :: u88 :: u89 :: u90 :: u91 :: u92 :: u93 :: u94 :: u95 :: u96 :: u97 :: u98 :: u99 :: u100 :: u101 :: u102 :: u103 :: u104 :: u105 :: u106 :: u107 :: u108 :: u109 :: u110 :: u111 :: u112 :: u113 :: u114 :: u115 :: u116 :: u117 :: u118 :: u119 :: u120 :: u121 :: u122 :: u123 :: u124 :: u125 :: u126 :: u127 :: u128 :: u129 :: u130 :: u131 :: u132 :: u133 :: u134 :: u135 :: u136 :: u137 :: u138 :: u139 :: u140 :: u141 :: u142 :: u143 :: u144 :: u145 :: u146 :: u147 :: u148 :: u149 :: u150 :: u151 :: u152 :: u153 :: u154 :: u155 :: u156 :: u157 :: u158 :: u159 :: u160 :: u161 :: u162 :: u163 :: u164 :: u165 :: u166 :: u167 :: u168 :: u169 :: u170 :: u171 :: u172 :: u173 :: u174 :: u175 :: u176 :: u177 :: u178 :: u179 :: u180 :: u181 :: u182 :: u183 :: u184 :: u185 :: u186 :: u187 :: u188 :: []), []⟩ w := by
  have HK := Lib.hid hK
  clear hK
  conv => arg 2; whnf
  have CC := Lib.hid (fun V => refCapacity_any l (D : Int) c V L1 L2 L3)
  have hcb := gCap_bd l (D : Int) c
  have CW := fun V => within_any z (gCap l (D : Int) c) V hz (by omega)
  simp only [hat] at CW
  replace CW := Lib.hid CW
  have htb := tdiv3_bd hz
  have Hew := Lib.hid (show IntKind.i64.wrap (z.tdiv 3) = z.tdiv 3 from by rw [IntKind.wrap_i64]; omega)
  have CSe := fun V => sector_any (z.tdiv 3) V htb
  rw [hxe] at CSe
  replace CSe := Lib.hid CSe
  have i0 : (0 : Int) ≤ (i : Int) := by omega
  have i1 : (i : Int) < (ln : Int) := by omega
  clear hat hxe htb
  refine wp_region_noPanic (region_ord 15 [] (fun V => GAt V gb l (D : Int) c ∧ Below W0.heap.size W0 V) (by kernel_rfl) (by kernel_rfl) (fun _ _ _ _ _ h => h) fun R => ?_)
  change anyI _ _ _ _ _ _ 15 _ _ w.drew
  have HS0 := Lib.hid (show (fun V => GAt V gb l (D : Int) c ∧ Below W0.heap.size W0 V) w.drew from ⟨(hk.below (Below.refl _ w).drew).gat hG, (hk.below (Below.refl _ w).drew).bp.bel⟩)
  obtain ⟨V0, hV0⟩ : ∃ V, w.drew = V := ⟨_, rfl⟩
  rw [hV0] at HS0 ⊢
  have Z0 : w.heap.size ≤ V0.heap.size := by rw [← hV0]; exact Nat.le_refl _
  have K0 := Lib.hid (show KS W0 V0 b H N KL [] S by rw [← hV0]; exact hk.below (Below.refl _ w).drew)
  clear hV0
  refine' anyI_take R 0 rfl (v := ?_) (by kernel_rfl) (by rfl) (fun V hV => ?hy) HS0.out ?_
  case hy => ((try dsimp only at hV);  obtain ⟨⟨y0, y1, y2⟩, y9⟩ := hV; have y3 := (y9.cell (p := ⟨bB, off + i, none⟩) hbb).trans hcz; go_simp; try with_reducible rfl)
  try simp only [Act.put, List.getElem_toArray, List.getElem_cons_succ, List.getElem_cons_zero, List.setIfInBounds_toArray, List.set_cons_zero, List.set_cons_succ]
  refine' anyI_take R 1 rfl (v := ?_) (by kernel_rfl) (by rfl) (fun V hV => ?hy) HS0.out ?_
  case hy => ((try dsimp only at hV);  obtain ⟨⟨y0, y1, y2⟩, y9⟩ := hV; have y3 := (y9.cell (p := ⟨bB, off + i, none⟩) hbb).trans hcz; go_simp; try with_reducible rfl)
  try simp only [Act.put, List.getElem_toArray, List.getElem_cons_succ, List.getElem_cons_zero, List.setIfInBounds_toArray, List.set_cons_zero, List.set_cons_succ]
  refine' anyI_take R 2 rfl (v := ?_) (by kernel_rfl) (by rfl) (fun V hV => ?hy) HS0.out ?_
  case hy => ((try dsimp only at hV);  obtain ⟨⟨y0, y1, y2⟩, y9⟩ := hV; have y3 := (y9.cell (p := ⟨bB, off + i, none⟩) hbb).trans hcz; go_simp; try with_reducible rfl)
  try simp only [Act.put, List.getElem_toArray, List.getElem_cons_succ, List.getElem_cons_zero, List.setIfInBounds_toArray, List.set_cons_zero, List.set_cons_succ]
  refine' anyI_take R 3 rfl (v := ?_) (by kernel_rfl) (by rfl) (fun V hV => ?hy) HS0.out ?_
  case hy => ((try dsimp only at hV);  obtain ⟨⟨y0, y1, y2⟩, y9⟩ := hV; have y3 := (y9.cell (p := ⟨bB, off + i, none⟩) hbb).trans hcz; go_simp; try with_reducible rfl)
  try simp only [Act.put, List.getElem_toArray, List.getElem_cons_succ, List.getElem_cons_zero, List.setIfInBounds_toArray, List.set_cons_zero, List.set_cons_succ]
  refine' anyI_take R 4 rfl (v := ?_) (by kernel_rfl) (by rfl) (fun V hV => ?hy) HS0.out ?_
  case hy => ((try dsimp only at hV);  obtain ⟨⟨y0, y1, y2⟩, y9⟩ := hV; have y3 := (y9.cell (p := ⟨bB, off + i, none⟩) hbb).trans hcz; go_simp; try with_reducible rfl)
  try simp only [Act.put, List.getElem_toArray, List.getElem_cons_succ, List.getElem_cons_zero, List.setIfInBounds_toArray, List.set_cons_zero, List.set_cons_succ]
  refine' anyI_take R 7 rfl (v := ?_) (by kernel_rfl) (by rfl) (fun V hV => ?hy) HS0.out ?_
  case hy => ((try dsimp only at hV);  obtain ⟨⟨y0, y1, y2⟩, y9⟩ := hV; have y3 := (y9.cell (p := ⟨bB, off + i, none⟩) hbb).trans hcz; go_simp; try with_reducible rfl)
  try simp only [Act.put, List.getElem_toArray, List.getElem_cons_succ, List.getElem_cons_zero, List.setIfInBounds_toArray, List.set_cons_zero, List.set_cons_succ]
  refine' anyI_take R 8 rfl (v := ?_) (by kernel_rfl) (by rfl) (fun V hV => ?hy) HS0.out ?_
  case hy => ((try dsimp only at hV);  obtain ⟨⟨y0, y1, y2⟩, y9⟩ := hV; have y3 := (y9.cell (p := ⟨bB, off + i, none⟩) hbb).trans hcz; go_simp; try with_reducible rfl)
  try simp only [Act.put, List.getElem_toArray, List.getElem_cons_succ, List.getElem_cons_zero, List.setIfInBounds_toArray, List.set_cons_zero, List.set_cons_succ]
  refine' anyI_take R 9 rfl (v := ?_) (by kernel_rfl) (by rfl) (fun V hV => ?hy) HS0.out ?_
  case hy => ((try dsimp only at hV);  obtain ⟨⟨y0, y1, y2⟩, y9⟩ := hV; have y3 := (y9.cell (p := ⟨bB, off + i, none⟩) hbb).trans hcz; go_simp; try with_reducible rfl)
  try simp only [Act.put, List.getElem_toArray, List.getElem_cons_succ, List.getElem_cons_zero, List.setIfInBounds_toArray, List.set_cons_zero, List.set_cons_succ]
  refine' anyI_take R 10 rfl (v := ?_) (by kernel_rfl) (by rfl) (fun V hV => ?hy) HS0.out ?_
  case hy => ((try dsimp only at hV);  obtain ⟨⟨y0, y1, y2⟩, y9⟩ := hV; have y3 := (y9.cell (p := ⟨bB, off + i, none⟩) hbb).trans hcz; go_simp; try with_reducible rfl)
  try simp only [Act.put, List.getElem_toArray, List.getElem_cons_succ, List.getElem_cons_zero, List.setIfInBounds_toArray, List.set_cons_zero, List.set_cons_succ]
  refine' anyI_take R 11 rfl (v := ?_) (by kernel_rfl) (by rfl) (fun V hV => ?hy) HS0.out ?_
  case hy => ((try dsimp only at hV);  obtain ⟨⟨y0, y1, y2⟩, y9⟩ := hV; have y3 := (y9.cell (p := ⟨bB, off + i, none⟩) hbb).trans hcz; go_simp; try with_reducible rfl)
  try simp only [Act.put, List.getElem_toArray, List.getElem_cons_succ, List.getElem_cons_zero, List.setIfInBounds_toArray, List.set_cons_zero, List.set_cons_succ]
  refine anyI_one 5 (by kernel_rfl) rfl ?_
  try simp only [List.getElem_toArray, List.getElem_cons_succ, List.getElem_cons_zero]
  refine opE_step ?_
  rw [if_pos (by rfl)]
  go_simp
  go_at_call 13
  (with_reducible refine (CC.out _).mono ?_)
  rintro e wc0 ⟨rfl, hbc⟩
  have K1 := Lib.hid (K0.out.below hbc)
  have Z1 : w.heap.size ≤ wc0.heap.size := Nat.le_trans Z0 hbc.size
  replace HS0 := Lib.hid (show (fun V => GAt V gb l (D : Int) c ∧ Below W0.heap.size W0 V) wc0 from ⟨K1.out.gat hG, K1.out.bp.bel⟩)
  clear hbc
  try dsimp only
  refine ⟨HS0.out, ?_⟩
  try simp only [Act.put, List.getElem_toArray, List.getElem_cons_succ, List.getElem_cons_zero, List.setIfInBounds_toArray, List.set_cons_zero, List.set_cons_succ]
  refine anyI_one 6 (by kernel_rfl) rfl ?_
  try simp only [List.getElem_toArray, List.getElem_cons_succ, List.getElem_cons_zero]
  refine opE_step ?_
  rw [if_pos (by rfl)]
  go_simp
  go_at_call 10
  (with_reducible refine (CW.out _).mono ?_)
  rintro e wn1 ⟨rfl, h5⟩
  obtain rfl : wc0 = wn1 := h5.symm
  try dsimp only
  refine ⟨HS0.out, ?_⟩
  try simp only [Act.put, List.getElem_toArray, List.getElem_cons_succ, List.getElem_cons_zero, List.setIfInBounds_toArray, List.set_cons_zero, List.set_cons_succ]
  refine anyI_one 12 (by kernel_rfl) rfl ?_
  try simp only [List.getElem_toArray, List.getElem_cons_succ, List.getElem_cons_zero]
  refine opE_step ?_
  rw [if_pos (by rfl)]
  go_simp
  go_at_call 14
  rw [Hew.out]
  (with_reducible refine (CSe.out _).mono ?_)
  rintro e wx1 ⟨gx, rfl, hxo, hbx⟩
  have K2 := Lib.hid (K1.out.slice hbx hxo.rdbf)
  have Z2 : w.heap.size ≤ wx1.heap.size := Nat.le_trans Z1 hbx.size
  have hgx : w.heap.size ≤ gx := Nat.le_trans Z1 (hxo.lt gx rfl).1
  replace HS0 := Lib.hid (show (fun V => GAt V gb l (D : Int) c ∧ Below W0.heap.size W0 V) wx1 from ⟨K2.out.gat hG, K2.out.bp.bel⟩)
  clear hbx hxo
  try dsimp only
  refine ⟨HS0.out, ?_⟩
  try simp only [Act.put, List.getElem_toArray, List.getElem_cons_succ, List.getElem_cons_zero, List.setIfInBounds_toArray, List.set_cons_zero, List.set_cons_succ]
  refine' anyI_take R 13 rfl (v := ?_) (by kernel_rfl) (by rfl) (fun V hV => ?hy) HS0.out ?_
  case hy => ((try dsimp only at hV);  obtain ⟨⟨y0, y1, y2⟩, y9⟩ := hV; have y3 := (y9.cell (p := ⟨bB, off + i, none⟩) hbb).trans hcz; go_simp; try with_reducible rfl)
  try simp only [Act.put, List.getElem_toArray, List.getElem_cons_succ, List.getElem_cons_zero, List.setIfInBounds_toArray, List.set_cons_zero, List.set_cons_succ]
  refine' anyI_take R 14 rfl (v := ?_) (by kernel_rfl) (by rfl) (fun V hV => ?hy) HS0.out ?_
  case hy => ((try dsimp only at hV);  obtain ⟨⟨y0, y1, y2⟩, y9⟩ := hV; have y3 := (y9.cell (p := ⟨bB, off + i, none⟩) hbb).trans hcz; go_simp; try with_reducible rfl)
  try simp only [Act.put, List.getElem_toArray, List.getElem_cons_succ, List.getElem_cons_zero, List.setIfInBounds_toArray, List.set_cons_zero, List.set_cons_succ]
  refine anyI_tail (by kernel_rfl) ?_
  try simp only [List.drop_succ_cons, List.drop_zero]
  clear R
  go_wp2_with fail
  refine NoPanic.normal ?_
  go_wp2_with fail
  exact HK.out _ _ _ _ _ _ _ _ _ _ _ _ _ gx _ K2.out hgx Z2
set_option maxRecDepth 100000 in
set_option maxHeartbeats 3200000 in
theorem udCb {W0 : World} {n l c r : Int} {D F W b gb gl mb cm : Nat} {B : Option Addr} {ats : List Int} {lv : List Bool} {i : Nat} {H : BH} {N : Bch} {ds : Nat → List (List UInt8)} {o : Obj} {Mp : Int → Option Value} {m : Nat} {S : List (Option Addr × List UInt8)} {w : World} (u0 u1 u3 u4 u5 u6 u7 u8 u12 u14 u15 u16 u17 u19 u20 u21 u22 u23 u24 u25 u26 u27 u28 u29 u30 u31 u32 u33 u34 u35 u36 u37 u38 u39 u40 u41 u42 u43 u44 u45 u46 u47 u48 u49 u50 u51 u52 u53 u54 u55 u56 u57 u58 u59 u60 u61 u62 u63 u64 u65 u66 u67 u68 u69 u70 u71 u72 u73 u74 u75 u76 u77 u78 u79 u80 u81 u82 u83 u84 u85 u86 u87 u88 u89 u90 u91 u92 u93 u94 u95 u96 u97 u98 u99 u100 u101 u102 u103 u104 u105 u106 u107 u108 u109 u110 u111 u112 u113 u114 u115 u116 u117 u118 u119 u120 u121 u122 u123 u124 u125 u126 u127 u128 u129 u130 u131 u132 u133 u134 u135 u136 u137 u138 u139 u140 u141 u142 u143 u144 u145 u146 u147 u148 u149 u150 u151 u152 u153 u154 u155 u156 u157 u158 u159 u160 u161 u162 u163 u164 u165 u166 u167 u168 u169 u170 u171 u172 u173 u174 u175 u176 u177 u178 u179 u180 u181 u182 u183 u184 u185 u186 u187 u188 : Value) (K : Act → World → Prop) (Q0 : Exit → Act → World → Prop) (hu : UpdC) (ht : TabOk W0) (gr : Gr n l c r D F W) (hcm : ats.length ≤ cm) (hzm : RdZ W0 W0.heap.size B ats) (hll : lv.length = D) (hcn : ∀ M : Bch, M.n = D → (∀ j, j < D → (M.D j).f = false) → cntB D (fun i => !srvD M lv i) ≤ 1) (hlx : ∃ j, j < D ∧ lv.getD j false = true) (hmb : ∀ q ∈ [(gl, Obj.cells (lv.map Value.bool).toArray 4 (0, 0)), (gb, Obj.cells #[.int .i64 l, .int .i64 (D : Int), .int .i64 c] 24 (0, 0))], q.1 ≠ mb) (hI : (i ≤ 20 ∧ m ≤ 128 + i ∧ KS W0 w b H N ((mb, o) :: [(gl, Obj.cells (lv.map Value.bool).toArray 4 (0, 0)), (gb, Obj.cells #[.int .i64 l, .int .i64 (D : Int), .int .i64 c] 24 (0, 0))]) [] S ∧ (∀ U : World, U.heap[mb]? = some o → MapV U mb m Mp) ∧ Wnt l D c W ds Mp S ∧ Frm S mb ∧ Arr N D lv l c W ds ∧ (∀ j, j < D → ((N).D j).f = false) ∧ (N).done ≤ 35 * i))
    (hK : ∀ (v8 v19 v20 v21 v22 v78 v79 v80 v81 v82 v83 v84 v85 v86 v87 v88 v89 v90 v91 v92 v93 v94 v95 v96 v97 v98 v99 v100 v101 v102 v103 v104 v105 v106 v107 v108 v109 v110 v111 v112 v113 v114 v115 v116 v117 v118 v119 v120 v121 v122 v123 v124 v125 v126 v127 v128 v129 v130 v131 v132 v133 v134 v135 v136 v137 v138 : Value) (H2 : BH) (N2 : Bch) (ds2 : Nat → List (List UInt8)) (o2 : Obj) (Mp2 : Int → Option Value) (m2 : Nat) (S2 : List (Option Addr × List UInt8)) (V : World), ((i + 1) ≤ 20 ∧ m2 ≤ 128 + (i + 1) ∧ KS W0 V b H2 N2 ((mb, o2) :: [(gl, Obj.cells (lv.map Value.bool).toArray 4 (0, 0)), (gb, Obj.cells #[.int .i64 l, .int .i64 (D : Int), .int .i64 c] 24 (0, 0))]) [] S2 ∧ (∀ U : World, U.heap[mb]? = some o2 → MapV U mb m2 Mp2) ∧ Wnt l D c W ds2 Mp2 S2 ∧ Frm S2 mb ∧ Arr N2 D lv l c W ds2 ∧ (∀ j, j < D → ((N2).D j).f = false) ∧ (N2).done ≤ 35 * (i + 1)) → 20 - (i + 1) < 20 - i → K ⟨List.toArray (u0 :: u1 :: (.slice B ats.length cm) :: u3 :: u4 :: u5 :: u6 :: u7 :: v8 :: (.pointer (some ⟨gb, 0, none⟩)) :: (.pointer (some ⟨b, 0, none⟩)) :: (.slice (some ⟨gl, 0, none⟩) D D) :: u12 :: (.map (some mb)) :: u14 :: u15 :: u16 :: u17 :: (.int .i64 (((i + 1) : Nat) : Int)) :: v19 :: v20 :: v21 :: v22 :: u23 :: u24 :: u25 :: u26 :: u27 :: u28 :: u29 :: u30 :: u31 :: u32 :: u33 :: u34 :: u35 :: u36 :: u37 :: u38 :: u39 :: u40 :: u41 :: u42 :: u43 :: u44 :: u45 :: u46 :: u47 :: u48 :: u49 :: u50 :: u51 :: u52 :: u53 :: u54 :: u55 :: u56 :: u57 :: u58 :: u59 :: u60 :: u61 :: u62 :: u63 :: u64 :: u65 :: u66 :: u67 :: u68 :: u69 :: u70 :: u71 :: u72 :: u73 :: u74 :: u75 :: u76 :: u77 :: v78 :: v79 :: v80 :: v81 :: v82 :: v83 :: v84 :: v85 :: v86 :: v87 :: v88 :: v89 :: v90 :: v91 :: v92 :: v93 :: v94 :: v95 :: v96 :: v97 :: v98 :: v99 :: v100 :: v101 :: v102 :: v103 :: v104 :: v105 :: v106 :: v107 :: v108 :: v109 :: v110 :: v111 :: v112 :: v113 :: v114 :: v115 :: v116 :: v117 :: v118 :: v119 :: v120 :: v121 :: v122 :: v123 :: v124 :: v125 :: v126 :: v127 :: v128 :: v129 :: v130 :: v131 :: v132 :: v133 :: v134 :: v135 :: v136 :: v137 :: v138 :: u139 :: u140 :: u141 :: u142 :: u143 :: u144 :: u145 :: u146 :: u147 :: u148 :: u149 :: u150 :: u151 :: u152 :: u153 :: u154 :: u155 :: u156 :: u157 :: u158 :: u159 :: u160 :: u161 :: u162 :: u163 :: u164 :: u165 :: u166 :: u167 :: u168 :: u169 :: u170 :: u171 :: u172 :: u173 :: u174 :: u175 :: u176 :: u177 :: u178 :: u179 :: u180 :: u181 :: u182 :: u183 :: u184 :: u185 :: u186 :: u187 :: u188 :: []), []⟩ V)
    (hX : ∀ (v8 v19 v20 v21 v22 v78 v79 v80 v81 v82 v83 v84 v85 v86 v87 v88 v89 v90 v91 v92 v93 v94 v95 v96 v97 v98 v99 v100 v101 v102 v103 v104 v105 v106 v107 v108 v109 v110 v111 v112 v113 v114 v115 v116 v117 v118 v119 v120 v121 v122 v123 v124 v125 v126 v127 v128 v129 v130 v131 v132 v133 v134 v135 v136 v137 v138 : Value), (True) → Q0 (.exit 4) ⟨List.toArray (u0 :: u1 :: (.slice B ats.length cm) :: u3 :: u4 :: u5 :: u6 :: u7 :: v8 :: (.pointer (some ⟨gb, 0, none⟩)) :: (.pointer (some ⟨b, 0, none⟩)) :: (.slice (some ⟨gl, 0, none⟩) D D) :: u12 :: (.map (some mb)) :: u14 :: u15 :: u16 :: u17 :: (.int .i64 ((i : Nat) : Int)) :: v19 :: v20 :: v21 :: v22 :: u23 :: u24 :: u25 :: u26 :: u27 :: u28 :: u29 :: u30 :: u31 :: u32 :: u33 :: u34 :: u35 :: u36 :: u37 :: u38 :: u39 :: u40 :: u41 :: u42 :: u43 :: u44 :: u45 :: u46 :: u47 :: u48 :: u49 :: u50 :: u51 :: u52 :: u53 :: u54 :: u55 :: u56 :: u57 :: u58 :: u59 :: u60 :: u61 :: u62 :: u63 :: u64 :: u65 :: u66 :: u67 :: u68 :: u69 :: u70 :: u71 :: u72 :: u73 :: u74 :: u75 :: u76 :: u77 :: v78 :: v79 :: v80 :: v81 :: v82 :: v83 :: v84 :: v85 :: v86 :: v87 :: v88 :: v89 :: v90 :: v91 :: v92 :: v93 :: v94 :: v95 :: v96 :: v97 :: v98 :: v99 :: v100 :: v101 :: v102 :: v103 :: v104 :: v105 :: v106 :: v107 :: v108 :: v109 :: v110 :: v111 :: v112 :: v113 :: v114 :: v115 :: v116 :: v117 :: v118 :: v119 :: v120 :: v121 :: v122 :: v123 :: v124 :: v125 :: v126 :: v127 :: v128 :: v129 :: v130 :: v131 :: v132 :: v133 :: v134 :: v135 :: v136 :: v137 :: v138 :: u139 :: u140 :: u141 :: u142 :: u143 :: u144 :: u145 :: u146 :: u147 :: u148 :: u149 :: u150 :: u151 :: u152 :: u153 :: u154 :: u155 :: u156 :: u157 :: u158 :: u159 :: u160 :: u161 :: u162 :: u163 :: u164 :: u165 :: u166 :: u167 :: u168 :: u169 :: u170 :: u171 :: u172 :: u173 :: u174 :: u175 :: u176 :: u177 :: u178 :: u179 :: u180 :: u181 :: u182 :: u183 :: u184 :: u185 :: u186 :: u187 :: u188 :: []), []⟩ w) :
    Code.wp Tryz.prog (sub [1, 1, 1, 1, 1, 1, 1, 1, 0, 1, 0, 0] codeUD) (Exit.then K Q0) ⟨List.toArray (u0 :: u1 :: (.slice B ats.length cm) :: u3 :: u4 :: u5 :: u6 :: u7 :: u8 :: (.pointer (some ⟨gb, 0, none⟩)) :: (.pointer (some ⟨b, 0, none⟩)) :: (.slice (some ⟨gl, 0, none⟩) D D) :: u12 :: (.map (some mb)) :: u14 :: u15 :: u16 :: u17 :: (.int .i64 ((i : Nat) : Int)) :: u19 :: u20 :: u21 :: u22 :: u23 :: u24 :: u25 :: u26 :: u27 :: u28 :: u29 :: u30 :: u31 :: u32 :: u33 :: u34 :: u35 :: u36 :: u37 :: u38 :: u39 :: u40 :: u41 :: u42 :: u43 :: u44 :: u45 :: u46 :: u47 :: u48 :: u49 :: u50 :: u51 :: u52 :: u53 :: u54 :: u55 :: u56 :: u57 :: u58 :: u59 :: u60 :: u61 :: u62 :: u63 :: u64 :: u65 :: u66 :: u67 :: u68 :: u69 :: u70 :: u71 :: u72 :: u73 :: u74 :: u75 :: u76 :: u77 :: u78 :: u79 :: u80 :: u81 :: u82 :: u83 :: u84 :: u85 :: u86 :: u87 :: u88 :: u89 :: u90 :: u91 :: u92 :: u93 :: u94 :: u95 :: u96 :: u97 :: u98 :: u99 :: u100 :: u101 :: u102 :: u103 :: u104 :: u105 :: u106 :: u107 :: u108 :: u109 :: u110 :: u111 :: u112 :: u113 :: u114 :: u115 :: u116 :: u117 :: u118 :: u119 :: u120 :: u121 :: u122 :: u123 :: u124 :: u125 :: u126 :: u127 :: u128 :: u129 :: u130 :: u131 :: u132 :: u133 :: u134 :: u135 :: u136 :: u137 :: u138 :: u139 :: u140 :: u141 :: u142 :: u143 :: u144 :: u145 :: u146 :: u147 :: u148 :: u149 :: u150 :: u151 :: u152 :: u153 :: u154 :: u155 :: u156 :: u157 :: u158 :: u159 :: u160 :: u161 :: u162 :: u163 :: u164 :: u165 :: u166 :: u167 :: u168 :: u169 :: u170 :: u171 :: u172 :: u173 :: u174 :: u175 :: u176 :: u177 :: u178 :: u179 :: u180 :: u181 :: u182 :: u183 :: u184 :: u185 :: u186 :: u187 :: u188 :: []), []⟩ w := by
  have HK := Lib.hid hK
  have HX := Lib.hid hX
  clear hK hX
  conv => arg 2; whnf
  obtain ⟨hi20, hm, hk, hmap, hw, hfr, ha, hfl, hdn⟩ := hI
  have hd8 := gr.d8
  have hd3 := gr.d3
  have hw7 := gr.w7
  have hlm := hzm.1
  by_cases hlt : i < ats.length ∧ i < 20
  · obtain ⟨hlt, h6⟩ := hlt
    have i0 : (0 : Int) ≤ (i : Int) := by omega
    have i1 : (i : Int) < (ats.length : Int) := by omega
    have i6 : (i : Int) < 20 := by omega
    have hbd := hzm.bd i
    obtain ⟨bB, off, rfl, hbb, hc⟩ := hzm.2.2 (by omega)
    have hcz := hc i hlt
    generalize ats.getD i 0 = z at hbd hcz
    clear hc
    have hg := (plOk_yes gr.ok).1
    have hcap : gCap l (D : Int) c = (W : Int) * 16 := by rw [gCap_yes hg, ← gWid_yes hg, gr.wd]
    have w1 := gr.w1
    have hab := withinI_bd z (gCap l (D : Int) c) (by omega)
    obtain ⟨ρ, k, hρ, hkW, hat, hR, hDk⟩ := num_of gr hab.1 hab.2
    obtain ⟨np1, _, _, _⟩ := num_place (gr.at hρ) hkW
    have hnb := (plOfOk_yes np1)
    have hcp0 : 0 < gCap l (D : Int) c := by omega
    rw [hcap] at hnb
    have hn := ha.st.n
    have hcnt1 := hcn N hn hfl
    have hcnt : ((cntB D (fun i => !srvD N lv i) : Nat) : Int) ≤ l - 4 := by have := gr.lv; omega
    have hx := sectorB_len (z.tdiv 3)
    obtain ⟨x, hxe⟩ : ∃ x, sectorB (z.tdiv 3) = x := ⟨_, rfl⟩
    rw [hxe] at hx
    have fok := fun e => ha.fok gr hx (n := (plN l (D : Int) c (ρ : Int) (k : Int))) e
    obtain ⟨e0, a2, its, dg, hits⟩ := ha.do_ (s := (i : Int) + 1) gr hρ hkW hx hcnt ⟨by omega, by omega⟩
    have hpos : 1 ≤ its.length := by rw [hits]; exact upIts_pos (gr.at hρ) hkW hcnt1
    have hget := dg.get hn hfl (by omega) hlx
    have L1 := gr.l64
    have L2 := gr.d64
    have L3 := gr.c64
    have CD := fun (V : World) (gx : Nat) (k' : KS W0 V b H N ((mb, o) :: [(gl, Obj.cells (lv.map Value.bool).toArray 4 (0, 0)), (gb, Obj.cells #[.int .i64 l, .int .i64 (D : Int), .int .i64 c] 24 (0, 0))]) [] ((some ⟨gx, 0, none⟩, x) :: S)) => ks_do k' hu ht lv (some ⟨gl, 0, none⟩) D D hll.symm (k'.lv (g := gl) (t := 4) (f := (0, 0)) (lv := lv) (by simp) rfl (by omega)) l (D : Int) c (plN l (D : Int) c (ρ : Int) (k : Int)) L1 L2 L3 (by omega) (some ⟨gx, 0, none⟩) 32 32 x hx (Nat.le_refl _) (k'.sl (A := some ⟨gx, 0, none⟩) (bs := x) (by simp)) ((i : Int) + 1) (by omega) fok (fun j hj => by rw [ha.st.good.ps j hj]; exact Nat.zero_le _) (by omega)
    rw [e0] at CD
    generalize doS N lv l (D : Int) c (plN l (D : Int) c (ρ : Int) (k : Int)) x ((i : Int) + 1) = q at CD a2 dg hget
    obtain ⟨_, M⟩ := q
    dsimp only at CD a2 dg hget
    replace CD := Lib.hid CD
    have hfl2 : ∀ j, j < D → (M.D j).f = false := fun j hj => (dg.f j hj).trans (hfl j hj)
    have hdn2 : M.done ≤ 35 * (i + 1) := by have := dg.done; omega
    have hMps : ∀ j, j < M.n → (M.D j).ps.length ≤ 2000000 := fun j hj => by rw [a2.st.good.ps j hj]; exact Nat.zero_le _
    have HP0 := Lib.hid a2.st.good.pend
    have A2 := Lib.hid a2
    have HF2 := Lib.hid hfl2
    have Hget := Lib.hid hget
    have HMps := Lib.hid hMps
    have Hw2 := Lib.hid (fun gx : Nat => hw.upd (cc := 32) (A := some ⟨gx, 0, none⟩) (x := x) ha.da hρ hkW)
    have Hmap := Lib.hid hmap
    have Hfr := Lib.hid hfr
    have Hmb := Lib.hid hmb
    have hml := (Array.getElem?_eq_some_iff.1 (hk.kx.kp _ (List.mem_cons_self ..)).1).1
    dsimp only at hml
    have hHG : (gb, Obj.cells #[.int .i64 l, .int .i64 (D : Int), .int .i64 c] 24 (0, 0)) ∈ ((mb, o) :: [(gl, Obj.cells (lv.map Value.bool).toArray 4 (0, 0)), (gb, Obj.cells #[.int .i64 l, .int .i64 (D : Int), .int .i64 c] 24 (0, 0))]) := by simp
    have Hlv := Lib.hid (fun (V : World) (H' : BH) (o' : Obj) (S' : List (Option Addr × List UInt8)) (k' : KS W0 V b H' M ((mb, o') :: [(gl, Obj.cells (lv.map Value.bool).toArray 4 (0, 0)), (gb, Obj.cells #[.int .i64 l, .int .i64 (D : Int), .int .i64 c] 24 (0, 0))]) [] S') => (k'.lv (g := gl) (t := 4) (f := (0, 0)) (lv := lv) (by simp) rfl (by omega)))
    have Hll := Lib.hid hll
    have hdec : decide ((0 : Int) < (i : Int) + 1) = true := decide_eq_true (by omega)
    have epn : (-9223372036854775808 ≤ (plN l (D : Int) c (ρ : Int) (k : Int)) ∧ (plN l (D : Int) c (ρ : Int) (k : Int)) ≤ 9223372036854775807) := by omega
    have hps1 : ¬ ((its.length : Int) < 1) := by omega
    clear hnb hcnt hcnt1 hits hpos fok e0 dg hget a2 hw hmap hfr ha hfl hfl2 hMps HX hcap hab gr hzm hg hcn hmb hR hDk np1 hn
    generalize (plN l (D : Int) c (ρ : Int) (k : Int)) = pn at *
    go_upto_region 22 with fail
    refine udP _ _ _ _ _ _ _ _ _ _ _ _ _ _ _ _ _ _ _ _ _ _ _ _ _ _ _ _ _ _ _ _ _ _ _ _ _ _ _ _ _ _ _ _ _ _ _ _ _ _ _ _ _ _ _ _ _ _ _ _ _ _ _ _ _ _ _ _ _ _ _ _ _ _ _ _ _ _ _ _ _ _ _ _ _ _ _ _ _ _ _ _ _ _ _ _ _ _ _ _ _ _ _ _ _ _ _ _ _ _ _ _ _ _ _ _ _ _ _ _ _ _ _ _ _ _ _ _ _ _ _ _ _ _ _ _ _ _ _ _ _ _ _ _ _ _ _ _ _ _ _ _ _ _ _ _ _ _ _ _ _ _ _ _ _ _ _ _ _ _ _ _ _ _ _ _ _ _ _ _ _ _ _ _ _ _ _ _ hk hHG hlt h6 (by omega) hbb hcz hbd L1 L2 L3 hcp0 hat hxe (fun v88 v89 v90 v91 v92 v93 v94 v95 v96 v97 v98 v99 v100 gx V5 k5 hgx hV5 => ?_)
    obtain ⟨g1, g2, g3⟩ := k5.gat (g := gb) (l := l) (d := (D : Int)) (c := c) (t := 24) (f := (0, 0)) (by simp)
    have K5 := Lib.hid k5
    have hne5 : gx ≠ mb := by omega
    have HFr5 := Lib.hid (show Frm ((some ⟨gx, 0, none⟩, x) :: S) mb from fun p hp h0 a ha => by
      rcases List.mem_cons.1 hp with rfl | hp
      · injection ha with ha; rw [← ha]; exact hne5
      · exact Hfr.out p hp h0 a ha)
    clear k5 hk
    go_wp2_with (first
      | (go_at_call 15
         (with_reducible refine (CD.out _ gx K5.out).mono ?_)
         rintro e w6 ⟨rfl, H6, k6⟩
         have K6 := Lib.hid k6
         have CP := bp_pending_eq W0 w6 b H6 M K6.out.bp HMps.out
         rw [HP0.out] at CP
         replace CP := Lib.hid CP
         clear k6)
      | (go_at_call 16
         (with_reducible refine CP.out.mono ?_)
         rintro e w7 ⟨rfl, h7⟩
         obtain rfl : w6 = w7 := h7.symm
         obtain ⟨w8, hrun, hm8, hg8⟩ := (Hmap.out w6 (K6.out.kx.kp _ (List.mem_cons_self ..)).1).store (by omega) pn (.slice (some ⟨gx, 0, none⟩) 32 32) epn
         obtain ⟨o2, ho2, hmv⟩ := hm8.obj
         have K8 := Lib.hid (K6.out.turn hg8 ho2 Hmb.out HFr5.out)
         have Hmv := Lib.hid hmv
         have CG := ku_get K8.out.ku ht lv (some ⟨gl, 0, none⟩) D D Hll.out.symm (Hlv.out _ _ _ _ K8.out) ((i : Int) + 1) its Hget.out
         rw [hdec] at CG
         replace CG := Lib.hid CG
         clear h7 hm8 hg8 ho2 hmv)
      | (go_at_call 17
         (with_reducible refine CG.out.mono ?_)
         rintro e w9 ⟨A9, c9, rfl, hc9, ku9, hb9⟩
         have K9 := Lib.hid (ku9.ks.below (below1 w9 (.cells #[.int .i64 ((i : Int) + 1), .slice A9 its.length c9] 43)))
         clear ku9 hb9))
    exact HK.out _ _ _ _ _ _ _ _ _ _ _ _ _ _ _ _ _ _ _ _ _ _ _ _ _ _ _ _ _ _ _ _ _ _ _ _ _ _ _ _ _ _ _ _ _ _ _ _ _ _ _ _ _ _ _ _ _ _ _ _ _ _ _ _ _ _ _ _ _ _ _ _ _ _ ⟨by omega, by omega, K9.out, Hmv.out, Hw2.out gx, HFr5.out, A2.out, HF2.out, hdn2⟩ (by omega)
  · clear HK hk hmap hw hfr ha hfl
    by_cases h1 : i < ats.length
    · have i1 : (i : Int) < (ats.length : Int) := by omega
      have i6 : ¬ (i : Int) < 20 := by omega
      clear hlt
      go_wp2_with fail
      exact HX.out _ _ _ _ _ _ _ _ _ _ _ _ _ _ _ _ _ _ _ _ _ _ _ _ _ _ _ _ _ _ _ _ _ _ _ _ _ _ _ _ _ _ _ _ _ _ _ _ _ _ _ _ _ _ _ _ _ _ _ _ _ _ _ _ _ _ trivial
    · have i1 : ¬ (i : Int) < (ats.length : Int) := by omega
      clear hlt
      go_wp2_with fail
      exact HX.out _ _ _ _ _ _ _ _ _ _ _ _ _ _ _ _ _ _ _ _ _ _ _ _ _ _ _ _ _ _ _ _ _ _ _ _ _ _ _ _ _ _ _ _ _ _ _ _ _ _ _ _ _ _ _ _ _ _ _ _ _ _ _ _ _ _ trivial
set_option maxRecDepth 100000 in
set_option maxHeartbeats 3200000 in
theorem udC {W0 : World} {n l c r : Int} {D F W b gb gl mb cm : Nat} {B : Option Addr} {ats : List Int} {lv : List Bool} {H0 : BH} {N0 : Bch} {ds0 : Nat → List (List UInt8)} {o0 : Obj} {Mp0 : Int → Option Value} {m0 : Nat} {S0 : List (Option Addr × List UInt8)} {w : World} (u0 u1 u3 u4 u5 u6 u7 u8 u12 u14 u15 u16 u17 u19 u20 u21 u22 u23 u24 u25 u26 u27 u28 u29 u30 u31 u32 u33 u34 u35 u36 u37 u38 u39 u40 u41 u42 u43 u44 u45 u46 u47 u48 u49 u50 u51 u52 u53 u54 u55 u56 u57 u58 u59 u60 u61 u62 u63 u64 u65 u66 u67 u68 u69 u70 u71 u72 u73 u74 u75 u76 u77 u78 u79 u80 u81 u82 u83 u84 u85 u86 u87 u88 u89 u90 u91 u92 u93 u94 u95 u96 u97 u98 u99 u100 u101 u102 u103 u104 u105 u106 u107 u108 u109 u110 u111 u112 u113 u114 u115 u116 u117 u118 u119 u120 u121 u122 u123 u124 u125 u126 u127 u128 u129 u130 u131 u132 u133 u134 u135 u136 u137 u138 u139 u140 u141 u142 u143 u144 u145 u146 u147 u148 u149 u150 u151 u152 u153 u154 u155 u156 u157 u158 u159 u160 u161 u162 u163 u164 u165 u166 u167 u168 u169 u170 u171 u172 u173 u174 u175 u176 u177 u178 u179 u180 u181 u182 u183 u184 u185 u186 u187 u188 : Value) (Q : Exit → Act → World → Prop) (hu : UpdC) (ht : TabOk W0) (gr : Gr n l c r D F W) (hcm : ats.length ≤ cm) (hzm : RdZ W0 W0.heap.size B ats) (hll : lv.length = D) (hcn : ∀ M : Bch, M.n = D → (∀ j, j < D → (M.D j).f = false) → cntB D (fun i => !srvD M lv i) ≤ 1) (hlx : ∃ j, j < D ∧ lv.getD j false = true) (hmb : ∀ q ∈ [(gl, Obj.cells (lv.map Value.bool).toArray 4 (0, 0)), (gb, Obj.cells #[.int .i64 l, .int .i64 (D : Int), .int .i64 c] 24 (0, 0))], q.1 ≠ mb) (hI : (0 ≤ 20 ∧ m0 ≤ 128 + 0 ∧ KS W0 w b H0 N0 ((mb, o0) :: [(gl, Obj.cells (lv.map Value.bool).toArray 4 (0, 0)), (gb, Obj.cells #[.int .i64 l, .int .i64 (D : Int), .int .i64 c] 24 (0, 0))]) [] S0 ∧ (∀ U : World, U.heap[mb]? = some o0 → MapV U mb m0 Mp0) ∧ Wnt l D c W ds0 Mp0 S0 ∧ Frm S0 mb ∧ Arr N0 D lv l c W ds0 ∧ (∀ j, j < D → ((N0).D j).f = false) ∧ (N0).done ≤ 35 * 0))
    (hX : ∀ (v8 v19 v20 v21 v22 v78 v79 v80 v81 v82 v83 v84 v85 v86 v87 v88 v89 v90 v91 v92 v93 v94 v95 v96 v97 v98 v99 v100 v101 v102 v103 v104 v105 v106 v107 v108 v109 v110 v111 v112 v113 v114 v115 v116 v117 v118 v119 v120 v121 v122 v123 v124 v125 v126 v127 v128 v129 v130 v131 v132 v133 v134 v135 v136 v137 v138 : Value) (i : Nat) (H : BH) (N : Bch) (ds : Nat → List (List UInt8)) (o : Obj) (Mp : Int → Option Value) (m : Nat) (S : List (Option Addr × List UInt8)) (V : World), (i ≤ 20 ∧ m ≤ 128 + i ∧ KS W0 V b H N ((mb, o) :: [(gl, Obj.cells (lv.map Value.bool).toArray 4 (0, 0)), (gb, Obj.cells #[.int .i64 l, .int .i64 (D : Int), .int .i64 c] 24 (0, 0))]) [] S ∧ (∀ U : World, U.heap[mb]? = some o → MapV U mb m Mp) ∧ Wnt l D c W ds Mp S ∧ Frm S mb ∧ Arr N D lv l c W ds ∧ (∀ j, j < D → ((N).D j).f = false) ∧ (N).done ≤ 35 * i) → (True) → Q (.exit 4) ⟨List.toArray (u0 :: u1 :: (.slice B ats.length cm) :: u3 :: u4 :: u5 :: u6 :: u7 :: v8 :: (.pointer (some ⟨gb, 0, none⟩)) :: (.pointer (some ⟨b, 0, none⟩)) :: (.slice (some ⟨gl, 0, none⟩) D D) :: u12 :: (.map (some mb)) :: u14 :: u15 :: u16 :: u17 :: (.int .i64 ((i : Nat) : Int)) :: v19 :: v20 :: v21 :: v22 :: u23 :: u24 :: u25 :: u26 :: u27 :: u28 :: u29 :: u30 :: u31 :: u32 :: u33 :: u34 :: u35 :: u36 :: u37 :: u38 :: u39 :: u40 :: u41 :: u42 :: u43 :: u44 :: u45 :: u46 :: u47 :: u48 :: u49 :: u50 :: u51 :: u52 :: u53 :: u54 :: u55 :: u56 :: u57 :: u58 :: u59 :: u60 :: u61 :: u62 :: u63 :: u64 :: u65 :: u66 :: u67 :: u68 :: u69 :: u70 :: u71 :: u72 :: u73 :: u74 :: u75 :: u76 :: u77 :: v78 :: v79 :: v80 :: v81 :: v82 :: v83 :: v84 :: v85 :: v86 :: v87 :: v88 :: v89 :: v90 :: v91 :: v92 :: v93 :: v94 :: v95 :: v96 :: v97 :: v98 :: v99 :: v100 :: v101 :: v102 :: v103 :: v104 :: v105 :: v106 :: v107 :: v108 :: v109 :: v110 :: v111 :: v112 :: v113 :: v114 :: v115 :: v116 :: v117 :: v118 :: v119 :: v120 :: v121 :: v122 :: v123 :: v124 :: v125 :: v126 :: v127 :: v128 :: v129 :: v130 :: v131 :: v132 :: v133 :: v134 :: v135 :: v136 :: v137 :: v138 :: u139 :: u140 :: u141 :: u142 :: u143 :: u144 :: u145 :: u146 :: u147 :: u148 :: u149 :: u150 :: u151 :: u152 :: u153 :: u154 :: u155 :: u156 :: u157 :: u158 :: u159 :: u160 :: u161 :: u162 :: u163 :: u164 :: u165 :: u166 :: u167 :: u168 :: u169 :: u170 :: u171 :: u172 :: u173 :: u174 :: u175 :: u176 :: u177 :: u178 :: u179 :: u180 :: u181 :: u182 :: u183 :: u184 :: u185 :: u186 :: u187 :: u188 :: []), []⟩ V) :
    Code.wp Tryz.prog (.loop (sub [1, 1, 1, 1, 1, 1, 1, 1, 0, 1, 0, 0] codeUD)) Q ⟨List.toArray (u0 :: u1 :: (.slice B ats.length cm) :: u3 :: u4 :: u5 :: u6 :: u7 :: u8 :: (.pointer (some ⟨gb, 0, none⟩)) :: (.pointer (some ⟨b, 0, none⟩)) :: (.slice (some ⟨gl, 0, none⟩) D D) :: u12 :: (.map (some mb)) :: u14 :: u15 :: u16 :: u17 :: (.int .i64 ((0 : Nat) : Int)) :: u19 :: u20 :: u21 :: u22 :: u23 :: u24 :: u25 :: u26 :: u27 :: u28 :: u29 :: u30 :: u31 :: u32 :: u33 :: u34 :: u35 :: u36 :: u37 :: u38 :: u39 :: u40 :: u41 :: u42 :: u43 :: u44 :: u45 :: u46 :: u47 :: u48 :: u49 :: u50 :: u51 :: u52 :: u53 :: u54 :: u55 :: u56 :: u57 :: u58 :: u59 :: u60 :: u61 :: u62 :: u63 :: u64 :: u65 :: u66 :: u67 :: u68 :: u69 :: u70 :: u71 :: u72 :: u73 :: u74 :: u75 :: u76 :: u77 :: u78 :: u79 :: u80 :: u81 :: u82 :: u83 :: u84 :: u85 :: u86 :: u87 :: u88 :: u89 :: u90 :: u91 :: u92 :: u93 :: u94 :: u95 :: u96 :: u97 :: u98 :: u99 :: u100 :: u101 :: u102 :: u103 :: u104 :: u105 :: u106 :: u107 :: u108 :: u109 :: u110 :: u111 :: u112 :: u113 :: u114 :: u115 :: u116 :: u117 :: u118 :: u119 :: u120 :: u121 :: u122 :: u123 :: u124 :: u125 :: u126 :: u127 :: u128 :: u129 :: u130 :: u131 :: u132 :: u133 :: u134 :: u135 :: u136 :: u137 :: u138 :: u139 :: u140 :: u141 :: u142 :: u143 :: u144 :: u145 :: u146 :: u147 :: u148 :: u149 :: u150 :: u151 :: u152 :: u153 :: u154 :: u155 :: u156 :: u157 :: u158 :: u159 :: u160 :: u161 :: u162 :: u163 :: u164 :: u165 :: u166 :: u167 :: u168 :: u169 :: u170 :: u171 :: u172 :: u173 :: u174 :: u175 :: u176 :: u177 :: u178 :: u179 :: u180 :: u181 :: u182 :: u183 :: u184 :: u185 :: u186 :: u187 :: u188 :: []), []⟩ w := by
  refine wp_loop_ghost (fun gk a V => ∀ C : Prop, (∀ (u8 u19 u20 u21 u22 u78 u79 u80 u81 u82 u83 u84 u85 u86 u87 u88 u89 u90 u91 u92 u93 u94 u95 u96 u97 u98 u99 u100 u101 u102 u103 u104 u105 u106 u107 u108 u109 u110 u111 u112 u113 u114 u115 u116 u117 u118 u119 u120 u121 u122 u123 u124 u125 u126 u127 u128 u129 u130 u131 u132 u133 u134 u135 u136 u137 u138 : Value) (i : Nat) (H : BH) (N : Bch) (ds : Nat → List (List UInt8)) (o : Obj) (Mp : Int → Option Value) (m : Nat) (S : List (Option Addr × List UInt8)), gk = 20 - i → (i ≤ 20 ∧ m ≤ 128 + i ∧ KS W0 V b H N ((mb, o) :: [(gl, Obj.cells (lv.map Value.bool).toArray 4 (0, 0)), (gb, Obj.cells #[.int .i64 l, .int .i64 (D : Int), .int .i64 c] 24 (0, 0))]) [] S ∧ (∀ U : World, U.heap[mb]? = some o → MapV U mb m Mp) ∧ Wnt l D c W ds Mp S ∧ Frm S mb ∧ Arr N D lv l c W ds ∧ (∀ j, j < D → ((N).D j).f = false) ∧ (N).done ≤ 35 * i) → a = ⟨List.toArray (u0 :: u1 :: (.slice B ats.length cm) :: u3 :: u4 :: u5 :: u6 :: u7 :: u8 :: (.pointer (some ⟨gb, 0, none⟩)) :: (.pointer (some ⟨b, 0, none⟩)) :: (.slice (some ⟨gl, 0, none⟩) D D) :: u12 :: (.map (some mb)) :: u14 :: u15 :: u16 :: u17 :: (.int .i64 ((i : Nat) : Int)) :: u19 :: u20 :: u21 :: u22 :: u23 :: u24 :: u25 :: u26 :: u27 :: u28 :: u29 :: u30 :: u31 :: u32 :: u33 :: u34 :: u35 :: u36 :: u37 :: u38 :: u39 :: u40 :: u41 :: u42 :: u43 :: u44 :: u45 :: u46 :: u47 :: u48 :: u49 :: u50 :: u51 :: u52 :: u53 :: u54 :: u55 :: u56 :: u57 :: u58 :: u59 :: u60 :: u61 :: u62 :: u63 :: u64 :: u65 :: u66 :: u67 :: u68 :: u69 :: u70 :: u71 :: u72 :: u73 :: u74 :: u75 :: u76 :: u77 :: u78 :: u79 :: u80 :: u81 :: u82 :: u83 :: u84 :: u85 :: u86 :: u87 :: u88 :: u89 :: u90 :: u91 :: u92 :: u93 :: u94 :: u95 :: u96 :: u97 :: u98 :: u99 :: u100 :: u101 :: u102 :: u103 :: u104 :: u105 :: u106 :: u107 :: u108 :: u109 :: u110 :: u111 :: u112 :: u113 :: u114 :: u115 :: u116 :: u117 :: u118 :: u119 :: u120 :: u121 :: u122 :: u123 :: u124 :: u125 :: u126 :: u127 :: u128 :: u129 :: u130 :: u131 :: u132 :: u133 :: u134 :: u135 :: u136 :: u137 :: u138 :: u139 :: u140 :: u141 :: u142 :: u143 :: u144 :: u145 :: u146 :: u147 :: u148 :: u149 :: u150 :: u151 :: u152 :: u153 :: u154 :: u155 :: u156 :: u157 :: u158 :: u159 :: u160 :: u161 :: u162 :: u163 :: u164 :: u165 :: u166 :: u167 :: u168 :: u169 :: u170 :: u171 :: u172 :: u173 :: u174 :: u175 :: u176 :: u177 :: u178 :: u179 :: u180 :: u181 :: u182 :: u183 :: u184 :: u185 :: u186 :: u187 :: u188 :: []), []⟩ → C) → C) (20 - 0) ?_ ?_
  · intro C hC
    exact hC _ _ _ _ _ _ _ _ _ _ _ _ _ _ _ _ _ _ _ _ _ _ _ _ _ _ _ _ _ _ _ _ _ _ _ _ _ _ _ _ _ _ _ _ _ _ _ _ _ _ _ _ _ _ _ _ _ _ _ _ _ _ _ _ _ _ (0) (H0) (N0) (ds0) (o0) (Mp0) (m0) (S0) rfl hI rfl
  · intro gk a V hI'
    refine hI' _ ?_
    intro u8 u19 u20 u21 u22 u78 u79 u80 u81 u82 u83 u84 u85 u86 u87 u88 u89 u90 u91 u92 u93 u94 u95 u96 u97 u98 u99 u100 u101 u102 u103 u104 u105 u106 u107 u108 u109 u110 u111 u112 u113 u114 u115 u116 u117 u118 u119 u120 u121 u122 u123 u124 u125 u126 u127 u128 u129 u130 u131 u132 u133 u134 u135 u136 u137 u138 i H N ds o Mp m S hk hinv ha
    subst ha
    subst hk
    refine udCb _ _ _ _ _ _ _ _ _ _ _ _ _ _ _ _ _ _ _ _ _ _ _ _ _ _ _ _ _ _ _ _ _ _ _ _ _ _ _ _ _ _ _ _ _ _ _ _ _ _ _ _ _ _ _ _ _ _ _ _ _ _ _ _ _ _ _ _ _ _ _ _ _ _ _ _ _ _ _ _ _ _ _ _ _ _ _ _ _ _ _ _ _ _ _ _ _ _ _ _ _ _ _ _ _ _ _ _ _ _ _ _ _ _ _ _ _ _ _ _ _ _ _ _ _ _ _ _ _ _ _ _ _ _ _ _ _ _ _ _ _ _ _ _ _ _ _ _ _ _ _ _ _ _ _ _ _ _ _ _ _ _ _ _ _ _ _ _ _ _ _ _ _ _ _ _ _ _ _ _ _ _ _ _ _ hu ht gr hcm hzm hll hcn hlx hmb hinv (fun v8 v19 v20 v21 v22 v78 v79 v80 v81 v82 v83 v84 v85 v86 v87 v88 v89 v90 v91 v92 v93 v94 v95 v96 v97 v98 v99 v100 v101 v102 v103 v104 v105 v106 v107 v108 v109 v110 v111 v112 v113 v114 v115 v116 v117 v118 v119 v120 v121 v122 v123 v124 v125 v126 v127 v128 v129 v130 v131 v132 v133 v134 v135 v136 v137 v138 H2 N2 ds2 o2 Mp2 m2 S2 V2 h2 hm => ?_) (fun v8 v19 v20 v21 v22 v78 v79 v80 v81 v82 v83 v84 v85 v86 v87 v88 v89 v90 v91 v92 v93 v94 v95 v96 v97 v98 v99 v100 v101 v102 v103 v104 v105 v106 v107 v108 v109 v110 v111 v112 v113 v114 v115 v116 v117 v118 v119 v120 v121 v122 v123 v124 v125 v126 v127 v128 v129 v130 v131 v132 v133 v134 v135 v136 v137 v138 hx => hX v8 v19 v20 v21 v22 v78 v79 v80 v81 v82 v83 v84 v85 v86 v87 v88 v89 v90 v91 v92 v93 v94 v95 v96 v97 v98 v99 v100 v101 v102 v103 v104 v105 v106 v107 v108 v109 v110 v111 v112 v113 v114 v115 v116 v117 v118 v119 v120 v121 v122 v123 v124 v125 v126 v127 v128 v129 v130 v131 v132 v133 v134 v135 v136 v137 v138 i H N ds o Mp m S V hinv hx)
    refine ⟨_, hm, fun C hC => ?_⟩
    exact hC v8 v19 v20 v21 v22 v78 v79 v80 v81 v82 v83 v84 v85 v86 v87 v88 v89 v90 v91 v92 v93 v94 v95 v96 v97 v98 v99 v100 v101 v102 v103 v104 v105 v106 v107 v108 v109 v110 v111 v112 v113 v114 v115 v116 v117 v118 v119 v120 v121 v122 v123 v124 v125 v126 v127 v128 v129 v130 v131 v132 v133 v134 v135 v136 v137 v138 ((i + 1)) (H2) (N2) (ds2) (o2) (Mp2) (m2) (S2) rfl h2 rfl
end Go.Proofs.YtenkkdnepmoihaaGreatDoor
end
section
set_option maxRecDepth 20000
set_option linter.unusedVariables false
set_option linter.unusedSimpArgs false
namespace Go.Proofs.YtenkkdnepmoihaaGreatDoor
open Go.RowKit

set_option maxRecDepth 100000 in
set_option maxHeartbeats 3200000 in
theorem udDb {W0 : World} {n l c r : Int} {D F W b gb gl mb rg m : Nat} {lv : List Bool} {ds : Nat → List (List UInt8)} {Mp : Int → Option Value} {MD : DataW Value} {o : Obj} {S : List (Option Addr × List UInt8)} {H : BH} {N : Bch} {left : Lit → Bool} {cnt : Nat} {w : World} (u0 u1 u2 u3 u4 u5 u6 u7 u8 u12 u13 u14 u15 u16 u17 u18 u19 u20 u21 u22 u23 u24 u25 u26 u27 u28 u29 u30 u31 u32 u33 u34 u35 u36 u37 u38 u39 u40 u41 u42 u43 u44 u45 u46 u47 u48 u49 u50 u51 u52 u53 u54 u55 u56 u57 u58 u59 u60 u61 u62 u63 u64 u65 u66 u67 u68 u69 u70 u71 u72 u73 u74 u75 u76 u77 u78 u79 u80 u81 u82 u83 u84 u85 u86 u87 u88 u89 u90 u91 u92 u93 u94 u95 u96 u97 u98 u99 u100 u101 u102 u103 u104 u105 u106 u107 u108 u109 u110 u111 u112 u113 u114 u115 u116 u117 u118 u119 u120 u121 u122 u123 u124 u125 u126 u127 u128 u129 u130 u131 u132 u133 u134 u135 u136 u137 u138 u139 u141 u142 u143 u144 u145 u146 u147 u148 u149 u150 u151 u152 u153 u154 u155 u156 u157 u158 u159 u160 u161 u162 u163 u164 u165 u166 u167 u168 u169 u170 u171 u172 u173 u174 u175 u176 u177 u178 u179 u180 u181 u182 u183 u184 u185 u186 u187 u188 : Value) (K : Act → World → Prop) (Q0 : Exit → Act → World → Prop) (gr : Gr n l c r D F W) (hll : lv.length = D) (ha : Arr N D lv l c W ds) (hcnt : ((cntB D (fun i => !srvD N lv i) : Nat) : Int) ≤ l - 4) (hMD : ∀ x : Int, Maps.has MD (.int .i64 x) = (Mp x).isSome ∧ ∀ v, Mp x = some v → ∀ z, MD.atKey (.int .i64 x) z = .held v) (hw : Wnt l D c W ds Mp S) (hrg : ¬ BF b H N.n rg) (hrW : W0.heap.size ≤ rg) (hrK : ∀ q ∈ ((mb, o) :: [(gl, Obj.cells (lv.map Value.bool).toArray 4 (0, 0)), (gb, Obj.cells #[.int .i64 l, .int .i64 (D : Int), .int .i64 c] 24 (0, 0))]), q.1 ≠ rg) (hrS : Frm S rg) (hI : (w.ranges Tryz.prog 3 heldV mb rg m MD left cnt ∧ (∀ kl, left kl = true → Maps.has MD kl = true) ∧ KS W0 w b H N ((mb, o) :: [(gl, Obj.cells (lv.map Value.bool).toArray 4 (0, 0)), (gb, Obj.cells #[.int .i64 l, .int .i64 (D : Int), .int .i64 c] 24 (0, 0))]) [] S))
    (hK : ∀ (v8 v23 v24 v25 v26 v141 v142 v143 v144 v145 v146 v147 v148 v149 v150 v151 v152 v153 v154 v155 v156 v157 v158 v159 v160 v161 : Value) (left2 : Lit → Bool) (cnt2 : Nat) (V : World), (V.ranges Tryz.prog 3 heldV mb rg m MD left2 cnt2 ∧ (∀ kl, left2 kl = true → Maps.has MD kl = true) ∧ KS W0 V b H N ((mb, o) :: [(gl, Obj.cells (lv.map Value.bool).toArray 4 (0, 0)), (gb, Obj.cells #[.int .i64 l, .int .i64 (D : Int), .int .i64 c] 24 (0, 0))]) [] S) → cnt2 + 1 < cnt + 1 → K ⟨List.toArray (u0 :: u1 :: u2 :: u3 :: u4 :: u5 :: u6 :: u7 :: v8 :: (.pointer (some ⟨gb, 0, none⟩)) :: (.pointer (some ⟨b, 0, none⟩)) :: (.slice (some ⟨gl, 0, none⟩) D D) :: u12 :: u13 :: u14 :: u15 :: u16 :: u17 :: u18 :: u19 :: u20 :: u21 :: u22 :: v23 :: v24 :: v25 :: v26 :: u27 :: u28 :: u29 :: u30 :: u31 :: u32 :: u33 :: u34 :: u35 :: u36 :: u37 :: u38 :: u39 :: u40 :: u41 :: u42 :: u43 :: u44 :: u45 :: u46 :: u47 :: u48 :: u49 :: u50 :: u51 :: u52 :: u53 :: u54 :: u55 :: u56 :: u57 :: u58 :: u59 :: u60 :: u61 :: u62 :: u63 :: u64 :: u65 :: u66 :: u67 :: u68 :: u69 :: u70 :: u71 :: u72 :: u73 :: u74 :: u75 :: u76 :: u77 :: u78 :: u79 :: u80 :: u81 :: u82 :: u83 :: u84 :: u85 :: u86 :: u87 :: u88 :: u89 :: u90 :: u91 :: u92 :: u93 :: u94 :: u95 :: u96 :: u97 :: u98 :: u99 :: u100 :: u101 :: u102 :: u103 :: u104 :: u105 :: u106 :: u107 :: u108 :: u109 :: u110 :: u111 :: u112 :: u113 :: u114 :: u115 :: u116 :: u117 :: u118 :: u119 :: u120 :: u121 :: u122 :: u123 :: u124 :: u125 :: u126 :: u127 :: u128 :: u129 :: u130 :: u131 :: u132 :: u133 :: u134 :: u135 :: u136 :: u137 :: u138 :: u139 :: (.pointer (some ⟨rg, 0, none⟩)) :: v141 :: v142 :: v143 :: v144 :: v145 :: v146 :: v147 :: v148 :: v149 :: v150 :: v151 :: v152 :: v153 :: v154 :: v155 :: v156 :: v157 :: v158 :: v159 :: v160 :: v161 :: u162 :: u163 :: u164 :: u165 :: u166 :: u167 :: u168 :: u169 :: u170 :: u171 :: u172 :: u173 :: u174 :: u175 :: u176 :: u177 :: u178 :: u179 :: u180 :: u181 :: u182 :: u183 :: u184 :: u185 :: u186 :: u187 :: u188 :: []), []⟩ V)
    (hX : ∀ (v8 v23 v24 v25 v26 v141 v142 v143 v144 v145 v146 v147 v148 v149 v150 v151 v152 v153 v154 v155 v156 v157 v158 v159 v160 v161 : Value), (True) → Q0 (.exit 6) ⟨List.toArray (u0 :: u1 :: u2 :: u3 :: u4 :: u5 :: u6 :: u7 :: v8 :: (.pointer (some ⟨gb, 0, none⟩)) :: (.pointer (some ⟨b, 0, none⟩)) :: (.slice (some ⟨gl, 0, none⟩) D D) :: u12 :: u13 :: u14 :: u15 :: u16 :: u17 :: u18 :: u19 :: u20 :: u21 :: u22 :: v23 :: v24 :: v25 :: v26 :: u27 :: u28 :: u29 :: u30 :: u31 :: u32 :: u33 :: u34 :: u35 :: u36 :: u37 :: u38 :: u39 :: u40 :: u41 :: u42 :: u43 :: u44 :: u45 :: u46 :: u47 :: u48 :: u49 :: u50 :: u51 :: u52 :: u53 :: u54 :: u55 :: u56 :: u57 :: u58 :: u59 :: u60 :: u61 :: u62 :: u63 :: u64 :: u65 :: u66 :: u67 :: u68 :: u69 :: u70 :: u71 :: u72 :: u73 :: u74 :: u75 :: u76 :: u77 :: u78 :: u79 :: u80 :: u81 :: u82 :: u83 :: u84 :: u85 :: u86 :: u87 :: u88 :: u89 :: u90 :: u91 :: u92 :: u93 :: u94 :: u95 :: u96 :: u97 :: u98 :: u99 :: u100 :: u101 :: u102 :: u103 :: u104 :: u105 :: u106 :: u107 :: u108 :: u109 :: u110 :: u111 :: u112 :: u113 :: u114 :: u115 :: u116 :: u117 :: u118 :: u119 :: u120 :: u121 :: u122 :: u123 :: u124 :: u125 :: u126 :: u127 :: u128 :: u129 :: u130 :: u131 :: u132 :: u133 :: u134 :: u135 :: u136 :: u137 :: u138 :: u139 :: (.pointer (some ⟨rg, 0, none⟩)) :: v141 :: v142 :: v143 :: v144 :: v145 :: v146 :: v147 :: v148 :: v149 :: v150 :: v151 :: v152 :: v153 :: v154 :: v155 :: v156 :: v157 :: v158 :: v159 :: v160 :: v161 :: u162 :: u163 :: u164 :: u165 :: u166 :: u167 :: u168 :: u169 :: u170 :: u171 :: u172 :: u173 :: u174 :: u175 :: u176 :: u177 :: u178 :: u179 :: u180 :: u181 :: u182 :: u183 :: u184 :: u185 :: u186 :: u187 :: u188 :: []), []⟩ w) :
    Code.wp Tryz.prog (sub [1, 1, 1, 1, 1, 1, 1, 1, 1, 0, 1, 0, 0] codeUD) (Exit.then K Q0) ⟨List.toArray (u0 :: u1 :: u2 :: u3 :: u4 :: u5 :: u6 :: u7 :: u8 :: (.pointer (some ⟨gb, 0, none⟩)) :: (.pointer (some ⟨b, 0, none⟩)) :: (.slice (some ⟨gl, 0, none⟩) D D) :: u12 :: u13 :: u14 :: u15 :: u16 :: u17 :: u18 :: u19 :: u20 :: u21 :: u22 :: u23 :: u24 :: u25 :: u26 :: u27 :: u28 :: u29 :: u30 :: u31 :: u32 :: u33 :: u34 :: u35 :: u36 :: u37 :: u38 :: u39 :: u40 :: u41 :: u42 :: u43 :: u44 :: u45 :: u46 :: u47 :: u48 :: u49 :: u50 :: u51 :: u52 :: u53 :: u54 :: u55 :: u56 :: u57 :: u58 :: u59 :: u60 :: u61 :: u62 :: u63 :: u64 :: u65 :: u66 :: u67 :: u68 :: u69 :: u70 :: u71 :: u72 :: u73 :: u74 :: u75 :: u76 :: u77 :: u78 :: u79 :: u80 :: u81 :: u82 :: u83 :: u84 :: u85 :: u86 :: u87 :: u88 :: u89 :: u90 :: u91 :: u92 :: u93 :: u94 :: u95 :: u96 :: u97 :: u98 :: u99 :: u100 :: u101 :: u102 :: u103 :: u104 :: u105 :: u106 :: u107 :: u108 :: u109 :: u110 :: u111 :: u112 :: u113 :: u114 :: u115 :: u116 :: u117 :: u118 :: u119 :: u120 :: u121 :: u122 :: u123 :: u124 :: u125 :: u126 :: u127 :: u128 :: u129 :: u130 :: u131 :: u132 :: u133 :: u134 :: u135 :: u136 :: u137 :: u138 :: u139 :: (.pointer (some ⟨rg, 0, none⟩)) :: u141 :: u142 :: u143 :: u144 :: u145 :: u146 :: u147 :: u148 :: u149 :: u150 :: u151 :: u152 :: u153 :: u154 :: u155 :: u156 :: u157 :: u158 :: u159 :: u160 :: u161 :: u162 :: u163 :: u164 :: u165 :: u166 :: u167 :: u168 :: u169 :: u170 :: u171 :: u172 :: u173 :: u174 :: u175 :: u176 :: u177 :: u178 :: u179 :: u180 :: u181 :: u182 :: u183 :: u184 :: u185 :: u186 :: u187 :: u188 :: []), []⟩ w := by
  have HK := Lib.hid hK
  have HX := Lib.hid hX
  clear hK hX
  conv => arg 2; whnf
  obtain ⟨hr, hleft, hk⟩ := hI
  have hd8 := gr.d8
  have HL := Lib.hid hleft
  have HMD := Lib.hid hMD
  have Hk := Lib.hid hk
  have Hw := Lib.hid hw
  have Ha := Lib.hid ha
  have Gr' := Lib.hid gr
  have hmr : mb ≠ rg := hrK (mb, o) (List.mem_cons_self ..)
  have HrK := Lib.hid hrK
  have HrS := Lib.hid hrS
  have L1 := gr.l64
  have L2 := gr.d64
  have L3 := gr.c64
  clear hleft hMD hk hw ha gr hrK hrS
  go_wp2_with (at_next; refine wpList_next_ranges _ rfl _ rfl 3 keyI heldV (Value.int .i64) (fun v : Value => v) (fun key kl hk => by obtain ⟨x, rfl, _⟩ := Maps.keyOf_int_inv Tryz.underlying3 hk; exact ⟨x, rfl⟩) (fun v y h => ⟨v, rfl⟩) mb rg m MD left cnt rfl hr ?_ ?_)
  · intro _ hl
    clear HK
    go_wp2_with fail
    exact HX.out _ _ _ _ _ _ _ _ _ _ _ _ _ _ _ _ _ _ _ _ _ _ _ _ _ _ trivial
  · intro x c' kl y1 y2 w1 cnt1 hkey hlk hy hat hr1 hlt hg1 hs1 hen
    obtain ⟨x', ex, rfl, _⟩ := Maps.keyOf_int_inv Tryz.underlying3 hkey
    injection ex with _ ex
    subst ex
    have hh := HL.out _ hlk
    rw [(HMD.out x).1] at hh
    obtain ⟨v, hv⟩ := Option.isSome_iff_exists.1 hh
    have hq := (HMD.out x).2 v hv .nil
    rw [hat .nil] at hq
    simp only [heldV, Option.some.injEq, Prod.mk.injEq] at hy
    obtain ⟨hy1, _⟩ := hy
    rw [← hy1] at hq
    injection hq with hq
    obtain ⟨ρ, k, A2, cc, hρ, hkW, hx, hvv, hmem⟩ := Hw.out x v hv
    rw [hq, hvv] at hen ⊢
    have h32 := Ha.out.da.get (t := ρ) hkW
    have Q1 := Ha.out.one Gr'.out hρ hkW hcnt
    rw [← hx] at Q1
    obtain ⟨np1, _, _, _⟩ := num_place (Gr'.out.at hρ) hkW
    rw [← hx] at np1
    have hnb := plOfOk_yes np1
    have hcb := gCap_bd l (D : Int) c
    have k1 := Hk.out.farS hg1 hrW hrg HrK.out HrS.out
    have CO := ks_one k1 lv (some ⟨gl, 0, none⟩) D D hll.symm (k1.lv (g := gl) (t := 4) (f := (0, 0)) (lv := lv) (by simp) rfl (by omega)) l (D : Int) c x L1 L2 L3 (by omega)
    rw [Q1.1, Q1.2, h32] at CO
    have CO := Lib.hid CO
    have Hmem := Lib.hid hmem
    obtain ⟨g1, g2, g3⟩ := k1.gat (g := gb) (l := l) (d := (D : Int)) (c := c) (t := 24) (f := (0, 0)) (by simp)
    have HL1 : Hid (∀ kl, (left kl && !kl.sameKey (.int .i64 x)) = true → Maps.has MD kl = true) := Lib.hid fun kl h => HL.out kl (by simp at h; exact h.1)
    have Hr1 := Lib.hid hr1
    have H32 := Lib.hid h32
    clear HX hr1 hkey hlk hat HL HMD Hk Hw Ha Gr' HrK HrS hh hv hq hy1 hx hvv Q1 np1 hnb hmem k1 hg1 hr
    go_wp2_with (first
      | (go_at_call 18
         (with_reducible refine CO.out.mono ?_)
         rintro e w2 ⟨A1, c1, rfl, k2, hb2⟩
         have CS := Lib.hid (sameT_any (c := c1) (c' := cc) H32.out.symm H32.out.symm (k2.sl (A := A1) (bs := (ds ρ).getD k []) (List.mem_cons_self ..)) (k2.sl (A := A2) (bs := (ds ρ).getD k []) (List.mem_cons_of_mem _ Hmem.out)))
         have K2 := Lib.hid (k2.less (K' := ((mb, o) :: [(gl, Obj.cells (lv.map Value.bool).toArray 4 (0, 0)), (gb, Obj.cells #[.int .i64 l, .int .i64 (D : Int), .int .i64 c] 24 (0, 0))])) (R' := []) (S' := S) (fun _ h => h) (fun _ h => h) (fun _ h => List.mem_cons_of_mem _ h))
         have Hr2 := Lib.hid (Hr1.out.kept (grown_none hb2) (by simp) (by simp))
         clear k2 hb2)
      | (go_at_call 19
         (with_reducible refine CS.out.mono ?_)
         rintro e w3 ⟨rfl, m3, rfl⟩
         have K3 := Lib.hid (K2.out.below (belowN _ _ m3))
         have Hr3 := Lib.hid (Hr2.out.kept (grown_none (belowN _ _ m3)) (by simp) (by simp))))
    exact HK.out _ _ _ _ _ _ _ _ _ _ _ _ _ _ _ _ _ _ _ _ _ _ _ _ _ _ _ _ _ ⟨Hr3.out, HL1.out, K3.out⟩ (by omega)
set_option maxRecDepth 100000 in
set_option maxHeartbeats 3200000 in
theorem udD {W0 : World} {n l c r : Int} {D F W b gb gl mb rg m : Nat} {lv : List Bool} {ds : Nat → List (List UInt8)} {Mp : Int → Option Value} {MD : DataW Value} {o : Obj} {S : List (Option Addr × List UInt8)} {H : BH} {N : Bch} {left0 : Lit → Bool} {cnt0 : Nat} {w : World} (u0 u1 u2 u3 u4 u5 u6 u7 u8 u12 u13 u14 u15 u16 u17 u18 u19 u20 u21 u22 u23 u24 u25 u26 u27 u28 u29 u30 u31 u32 u33 u34 u35 u36 u37 u38 u39 u40 u41 u42 u43 u44 u45 u46 u47 u48 u49 u50 u51 u52 u53 u54 u55 u56 u57 u58 u59 u60 u61 u62 u63 u64 u65 u66 u67 u68 u69 u70 u71 u72 u73 u74 u75 u76 u77 u78 u79 u80 u81 u82 u83 u84 u85 u86 u87 u88 u89 u90 u91 u92 u93 u94 u95 u96 u97 u98 u99 u100 u101 u102 u103 u104 u105 u106 u107 u108 u109 u110 u111 u112 u113 u114 u115 u116 u117 u118 u119 u120 u121 u122 u123 u124 u125 u126 u127 u128 u129 u130 u131 u132 u133 u134 u135 u136 u137 u138 u139 u141 u142 u143 u144 u145 u146 u147 u148 u149 u150 u151 u152 u153 u154 u155 u156 u157 u158 u159 u160 u161 u162 u163 u164 u165 u166 u167 u168 u169 u170 u171 u172 u173 u174 u175 u176 u177 u178 u179 u180 u181 u182 u183 u184 u185 u186 u187 u188 : Value) (Q : Exit → Act → World → Prop) (gr : Gr n l c r D F W) (hll : lv.length = D) (ha : Arr N D lv l c W ds) (hcnt : ((cntB D (fun i => !srvD N lv i) : Nat) : Int) ≤ l - 4) (hMD : ∀ x : Int, Maps.has MD (.int .i64 x) = (Mp x).isSome ∧ ∀ v, Mp x = some v → ∀ z, MD.atKey (.int .i64 x) z = .held v) (hw : Wnt l D c W ds Mp S) (hrg : ¬ BF b H N.n rg) (hrW : W0.heap.size ≤ rg) (hrK : ∀ q ∈ ((mb, o) :: [(gl, Obj.cells (lv.map Value.bool).toArray 4 (0, 0)), (gb, Obj.cells #[.int .i64 l, .int .i64 (D : Int), .int .i64 c] 24 (0, 0))]), q.1 ≠ rg) (hrS : Frm S rg) (hI : (w.ranges Tryz.prog 3 heldV mb rg m MD left0 cnt0 ∧ (∀ kl, left0 kl = true → Maps.has MD kl = true) ∧ KS W0 w b H N ((mb, o) :: [(gl, Obj.cells (lv.map Value.bool).toArray 4 (0, 0)), (gb, Obj.cells #[.int .i64 l, .int .i64 (D : Int), .int .i64 c] 24 (0, 0))]) [] S))
    (hX : ∀ (v8 v23 v24 v25 v26 v141 v142 v143 v144 v145 v146 v147 v148 v149 v150 v151 v152 v153 v154 v155 v156 v157 v158 v159 v160 v161 : Value) (left : Lit → Bool) (cnt : Nat) (V : World), (V.ranges Tryz.prog 3 heldV mb rg m MD left cnt ∧ (∀ kl, left kl = true → Maps.has MD kl = true) ∧ KS W0 V b H N ((mb, o) :: [(gl, Obj.cells (lv.map Value.bool).toArray 4 (0, 0)), (gb, Obj.cells #[.int .i64 l, .int .i64 (D : Int), .int .i64 c] 24 (0, 0))]) [] S) → (True) → Q (.exit 6) ⟨List.toArray (u0 :: u1 :: u2 :: u3 :: u4 :: u5 :: u6 :: u7 :: v8 :: (.pointer (some ⟨gb, 0, none⟩)) :: (.pointer (some ⟨b, 0, none⟩)) :: (.slice (some ⟨gl, 0, none⟩) D D) :: u12 :: u13 :: u14 :: u15 :: u16 :: u17 :: u18 :: u19 :: u20 :: u21 :: u22 :: v23 :: v24 :: v25 :: v26 :: u27 :: u28 :: u29 :: u30 :: u31 :: u32 :: u33 :: u34 :: u35 :: u36 :: u37 :: u38 :: u39 :: u40 :: u41 :: u42 :: u43 :: u44 :: u45 :: u46 :: u47 :: u48 :: u49 :: u50 :: u51 :: u52 :: u53 :: u54 :: u55 :: u56 :: u57 :: u58 :: u59 :: u60 :: u61 :: u62 :: u63 :: u64 :: u65 :: u66 :: u67 :: u68 :: u69 :: u70 :: u71 :: u72 :: u73 :: u74 :: u75 :: u76 :: u77 :: u78 :: u79 :: u80 :: u81 :: u82 :: u83 :: u84 :: u85 :: u86 :: u87 :: u88 :: u89 :: u90 :: u91 :: u92 :: u93 :: u94 :: u95 :: u96 :: u97 :: u98 :: u99 :: u100 :: u101 :: u102 :: u103 :: u104 :: u105 :: u106 :: u107 :: u108 :: u109 :: u110 :: u111 :: u112 :: u113 :: u114 :: u115 :: u116 :: u117 :: u118 :: u119 :: u120 :: u121 :: u122 :: u123 :: u124 :: u125 :: u126 :: u127 :: u128 :: u129 :: u130 :: u131 :: u132 :: u133 :: u134 :: u135 :: u136 :: u137 :: u138 :: u139 :: (.pointer (some ⟨rg, 0, none⟩)) :: v141 :: v142 :: v143 :: v144 :: v145 :: v146 :: v147 :: v148 :: v149 :: v150 :: v151 :: v152 :: v153 :: v154 :: v155 :: v156 :: v157 :: v158 :: v159 :: v160 :: v161 :: u162 :: u163 :: u164 :: u165 :: u166 :: u167 :: u168 :: u169 :: u170 :: u171 :: u172 :: u173 :: u174 :: u175 :: u176 :: u177 :: u178 :: u179 :: u180 :: u181 :: u182 :: u183 :: u184 :: u185 :: u186 :: u187 :: u188 :: []), []⟩ V) :
    Code.wp Tryz.prog (.loop (sub [1, 1, 1, 1, 1, 1, 1, 1, 1, 0, 1, 0, 0] codeUD)) Q ⟨List.toArray (u0 :: u1 :: u2 :: u3 :: u4 :: u5 :: u6 :: u7 :: u8 :: (.pointer (some ⟨gb, 0, none⟩)) :: (.pointer (some ⟨b, 0, none⟩)) :: (.slice (some ⟨gl, 0, none⟩) D D) :: u12 :: u13 :: u14 :: u15 :: u16 :: u17 :: u18 :: u19 :: u20 :: u21 :: u22 :: u23 :: u24 :: u25 :: u26 :: u27 :: u28 :: u29 :: u30 :: u31 :: u32 :: u33 :: u34 :: u35 :: u36 :: u37 :: u38 :: u39 :: u40 :: u41 :: u42 :: u43 :: u44 :: u45 :: u46 :: u47 :: u48 :: u49 :: u50 :: u51 :: u52 :: u53 :: u54 :: u55 :: u56 :: u57 :: u58 :: u59 :: u60 :: u61 :: u62 :: u63 :: u64 :: u65 :: u66 :: u67 :: u68 :: u69 :: u70 :: u71 :: u72 :: u73 :: u74 :: u75 :: u76 :: u77 :: u78 :: u79 :: u80 :: u81 :: u82 :: u83 :: u84 :: u85 :: u86 :: u87 :: u88 :: u89 :: u90 :: u91 :: u92 :: u93 :: u94 :: u95 :: u96 :: u97 :: u98 :: u99 :: u100 :: u101 :: u102 :: u103 :: u104 :: u105 :: u106 :: u107 :: u108 :: u109 :: u110 :: u111 :: u112 :: u113 :: u114 :: u115 :: u116 :: u117 :: u118 :: u119 :: u120 :: u121 :: u122 :: u123 :: u124 :: u125 :: u126 :: u127 :: u128 :: u129 :: u130 :: u131 :: u132 :: u133 :: u134 :: u135 :: u136 :: u137 :: u138 :: u139 :: (.pointer (some ⟨rg, 0, none⟩)) :: u141 :: u142 :: u143 :: u144 :: u145 :: u146 :: u147 :: u148 :: u149 :: u150 :: u151 :: u152 :: u153 :: u154 :: u155 :: u156 :: u157 :: u158 :: u159 :: u160 :: u161 :: u162 :: u163 :: u164 :: u165 :: u166 :: u167 :: u168 :: u169 :: u170 :: u171 :: u172 :: u173 :: u174 :: u175 :: u176 :: u177 :: u178 :: u179 :: u180 :: u181 :: u182 :: u183 :: u184 :: u185 :: u186 :: u187 :: u188 :: []), []⟩ w := by
  refine wp_loop_ghost (fun gk a V => ∀ C : Prop, (∀ (u8 u23 u24 u25 u26 u141 u142 u143 u144 u145 u146 u147 u148 u149 u150 u151 u152 u153 u154 u155 u156 u157 u158 u159 u160 u161 : Value) (left : Lit → Bool) (cnt : Nat), gk = cnt + 1 → (V.ranges Tryz.prog 3 heldV mb rg m MD left cnt ∧ (∀ kl, left kl = true → Maps.has MD kl = true) ∧ KS W0 V b H N ((mb, o) :: [(gl, Obj.cells (lv.map Value.bool).toArray 4 (0, 0)), (gb, Obj.cells #[.int .i64 l, .int .i64 (D : Int), .int .i64 c] 24 (0, 0))]) [] S) → a = ⟨List.toArray (u0 :: u1 :: u2 :: u3 :: u4 :: u5 :: u6 :: u7 :: u8 :: (.pointer (some ⟨gb, 0, none⟩)) :: (.pointer (some ⟨b, 0, none⟩)) :: (.slice (some ⟨gl, 0, none⟩) D D) :: u12 :: u13 :: u14 :: u15 :: u16 :: u17 :: u18 :: u19 :: u20 :: u21 :: u22 :: u23 :: u24 :: u25 :: u26 :: u27 :: u28 :: u29 :: u30 :: u31 :: u32 :: u33 :: u34 :: u35 :: u36 :: u37 :: u38 :: u39 :: u40 :: u41 :: u42 :: u43 :: u44 :: u45 :: u46 :: u47 :: u48 :: u49 :: u50 :: u51 :: u52 :: u53 :: u54 :: u55 :: u56 :: u57 :: u58 :: u59 :: u60 :: u61 :: u62 :: u63 :: u64 :: u65 :: u66 :: u67 :: u68 :: u69 :: u70 :: u71 :: u72 :: u73 :: u74 :: u75 :: u76 :: u77 :: u78 :: u79 :: u80 :: u81 :: u82 :: u83 :: u84 :: u85 :: u86 :: u87 :: u88 :: u89 :: u90 :: u91 :: u92 :: u93 :: u94 :: u95 :: u96 :: u97 :: u98 :: u99 :: u100 :: u101 :: u102 :: u103 :: u104 :: u105 :: u106 :: u107 :: u108 :: u109 :: u110 :: u111 :: u112 :: u113 :: u114 :: u115 :: u116 :: u117 :: u118 :: u119 :: u120 :: u121 :: u122 :: u123 :: u124 :: u125 :: u126 :: u127 :: u128 :: u129 :: u130 :: u131 :: u132 :: u133 :: u134 :: u135 :: u136 :: u137 :: u138 :: u139 :: (.pointer (some ⟨rg, 0, none⟩)) :: u141 :: u142 :: u143 :: u144 :: u145 :: u146 :: u147 :: u148 :: u149 :: u150 :: u151 :: u152 :: u153 :: u154 :: u155 :: u156 :: u157 :: u158 :: u159 :: u160 :: u161 :: u162 :: u163 :: u164 :: u165 :: u166 :: u167 :: u168 :: u169 :: u170 :: u171 :: u172 :: u173 :: u174 :: u175 :: u176 :: u177 :: u178 :: u179 :: u180 :: u181 :: u182 :: u183 :: u184 :: u185 :: u186 :: u187 :: u188 :: []), []⟩ → C) → C) (cnt0 + 1) ?_ ?_
  · intro C hC
    exact hC _ _ _ _ _ _ _ _ _ _ _ _ _ _ _ _ _ _ _ _ _ _ _ _ _ _ (left0) (cnt0) rfl hI rfl
  · intro gk a V hI'
    refine hI' _ ?_
    intro u8 u23 u24 u25 u26 u141 u142 u143 u144 u145 u146 u147 u148 u149 u150 u151 u152 u153 u154 u155 u156 u157 u158 u159 u160 u161 left cnt hk hinv ha
    subst ha
    subst hk
    refine udDb _ _ _ _ _ _ _ _ _ _ _ _ _ _ _ _ _ _ _ _ _ _ _ _ _ _ _ _ _ _ _ _ _ _ _ _ _ _ _ _ _ _ _ _ _ _ _ _ _ _ _ _ _ _ _ _ _ _ _ _ _ _ _ _ _ _ _ _ _ _ _ _ _ _ _ _ _ _ _ _ _ _ _ _ _ _ _ _ _ _ _ _ _ _ _ _ _ _ _ _ _ _ _ _ _ _ _ _ _ _ _ _ _ _ _ _ _ _ _ _ _ _ _ _ _ _ _ _ _ _ _ _ _ _ _ _ _ _ _ _ _ _ _ _ _ _ _ _ _ _ _ _ _ _ _ _ _ _ _ _ _ _ _ _ _ _ _ _ _ _ _ _ _ _ _ _ _ _ _ _ _ _ _ _ _ _ _ gr hll ha hcnt hMD hw hrg hrW hrK hrS hinv (fun v8 v23 v24 v25 v26 v141 v142 v143 v144 v145 v146 v147 v148 v149 v150 v151 v152 v153 v154 v155 v156 v157 v158 v159 v160 v161 left2 cnt2 V2 h2 hm => ?_) (fun v8 v23 v24 v25 v26 v141 v142 v143 v144 v145 v146 v147 v148 v149 v150 v151 v152 v153 v154 v155 v156 v157 v158 v159 v160 v161 hx => hX v8 v23 v24 v25 v26 v141 v142 v143 v144 v145 v146 v147 v148 v149 v150 v151 v152 v153 v154 v155 v156 v157 v158 v159 v160 v161 left cnt V hinv hx)
    refine ⟨_, hm, fun C hC => ?_⟩
    exact hC v8 v23 v24 v25 v26 v141 v142 v143 v144 v145 v146 v147 v148 v149 v150 v151 v152 v153 v154 v155 v156 v157 v158 v159 v160 v161 (left2) (cnt2) rfl h2 rfl
end Go.Proofs.YtenkkdnepmoihaaGreatDoor
end
