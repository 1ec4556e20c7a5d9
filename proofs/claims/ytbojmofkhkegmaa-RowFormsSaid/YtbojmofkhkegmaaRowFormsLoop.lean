/- RowForms: its second loop. -/
import Derived.Test.YtbojmofkhkegmaaRowFormsIn
set_option linter.unusedVariables false
set_option linter.unusedSimpArgs false
namespace Go.Proofs.Ytbojmofkhkegmaa
open Go.RowKit

theorem two_all {sa sb : List UInt8} (hal : sa.length = 32) (hbl : sb.length = 32) : ∀ x ∈ [sa, sb], x.length = 32 := fun x hx => by
  simp only [List.mem_cons, List.mem_nil_iff, or_false] at hx
  rcases hx with rfl | rfl <;> assumption
theorem sameRowsT {A A' : Option Addr} {ra : List (List UInt8)} {n n' c c' : Nat} {w : World} (hn : ra.length = n) (hn' : ra.length = n') (hr : RdR w w.heap.size A ra) (hr' : RdR w w.heap.size A' ra) :
    Calls Try.prog 11 #[.slice A n c, .slice A' n' c'] w fun e w' => e = .returned (.bool true) ∧ Below w.heap.size w w' :=
  (sameRows_any A A' ra ra n n' c c' w hn hn' hr hr').mono fun _ _ ⟨he, hb⟩ => ⟨by rw [he, decide_eq_true rfl], hb⟩
theorem forms_ok {r : Int} (hk : plOk 6 4 1 r = true) {sa sb : List UInt8} (hal : sa.length = 32) (hbl : sb.length = 32) : fillOk 6 4 1 r [sa, sb] = true := fillOk_mk hk rfl (two_all hal hbl)
theorem forms_take {r : Int} (hk : plOk 6 4 1 r = true) {sa sb : List UInt8} (hal : sa.length = 32) (hbl : sb.length = 32) {i j : Nat} (hi : i < 4) (hj : j < 4) : roTake 6 4 1 r (((fillL 4 (roF 6 4 1 r) [sa, sb]).set i []).set j []) = some [sa, sb] := by
  have hok := forms_ok hk hal hbl
  have hl : (((fillL 4 (roF 6 4 1 r) [sa, sb]).set i []).set j []).length = 4 := by rw [List.length_set, List.length_set, fillL_len]
  have hl1 : ((fillL 4 (roF 6 4 1 r) [sa, sb]).set i []).length = 4 := by rw [List.length_set, fillL_len]
  refine lose_ok hok hl (fun k hk4 => ?_) ?_
  · have hk4 : k < 4 := hk4
    by_cases e1 : j = k
    · subst e1; left; rw [getD_set_same (by omega)]; rfl
    · rw [getD_set_other e1]
      by_cases e2 : i = k
      · subst e2; left; rw [getD_set_same (by rw [fillL_len]; omega)]; rfl
      · rw [getD_set_other e2]; right; rfl
  · show ((cntB 4 _ : Nat) : Int) ≤ 6 - 4
    have e : cntB 4 (emptyB (((fillL 4 (roF 6 4 1 r) [sa, sb]).set i []).set j [])) = cntB 4 (fun k => decide (k = j) || decide (k = i)) := cntB_congr fun k hk4 => by
      rw [emptyB_set hl1 hj, emptyB_set (fillL_len _ _ _) hi]
      have : emptyB (fillL 4 (roF 6 4 1 r) [sa, sb]) k = false := by
        have h := fill_32 hok (i := k) hk4
        unfold emptyB
        have h2 : ((fillL 4 (roF 6 4 1 r) [sa, sb]).getD k []).length = 32 := h
        rw [h2]; rfl
      rw [this, Bool.or_false]
    rw [e]
    have h1 := cntB_or 4 (fun k => decide (k = j)) (fun k => decide (k = i))
    have h2 := cntB_one_le 4 j
    have h3 := cntB_one_le 4 i
    omega
theorem forms_right {r : Int} (hk : plOk 6 4 1 r = true) {sa sb : List UInt8} (hal : sa.length = 32) (hbl : sb.length = 32) : roRight 6 4 1 r (fillL 4 (roF 6 4 1 r) [sa, sb]) = true := row_right (forms_ok hk hal hbl)
set_option maxRecDepth 100000 in
set_option maxHeartbeats 3200000 in
theorem rfBb {W5 : World} {x y : Int} {gx ga gb gt : Nat} {sa sb : List UInt8} {r : Nat} {w : World} (u0 u3 u4 u5 u6 u10 u11 u12 u13 u14 u15 u16 u17 u18 u19 u20 u21 u22 u23 u24 u25 u26 u27 u28 u29 u30 u31 u32 u33 u34 u35 u36 u37 u38 u39 u40 u41 u42 u43 u44 u45 u46 u47 u48 u49 u50 u51 u52 u53 u54 u55 u56 u57 u58 u59 u60 u61 u62 u63 u64 u65 u66 u67 u68 u69 u70 u71 u72 u73 u74 u75 u76 u80 u81 u82 u83 u84 u85 u86 u87 u88 u89 u90 u91 u92 u93 u94 u95 u96 u97 u98 u99 u100 u101 u102 u103 u104 u105 u106 u107 u108 u109 u110 u111 u112 u113 u114 u115 u116 u117 u118 u119 u120 u121 u122 u123 u124 u125 u126 u127 u128 u129 u130 u131 u132 u133 u134 u135 u136 u137 u138 u139 u140 u141 u142 u143 u144 u145 u146 u147 u148 u149 u150 u151 u152 u153 u154 u155 u156 u157 u158 u159 u160 u161 u162 u163 u164 u165 u166 u167 u168 u169 u170 u171 u172 u173 u174 u175 u176 u177 u178 u179 u180 u181 u182 u183 u184 u185 u186 u187 u188 u189 u190 u191 u192 u193 u194 u195 u196 u197 u198 u199 u200 u201 u202 u203 : Value) (K : Act → World → Prop) (Q0 : Exit → Act → World → Prop) (hg : GAt W5 gx 6 4 1) (hgx : gx < W5.heap.size) (hra : RdB W5 W5.heap.size (some ⟨ga, 0, none⟩) sa) (hrb : RdB W5 W5.heap.size (some ⟨gb, 0, none⟩) sb) (hal : sa.length = 32) (hbl : sb.length = 32) (hgt : gt < W5.heap.size) (ht : ∀ r : Nat, r < 2 → ∃ Aw cw, W5.cell? ⟨gt, r, none⟩ = some (.slice Aw 4 cw) ∧ RdR W5 W5.heap.size Aw (fillL 4 (roF 6 4 1 (r : Int)) [sa, sb])) (hx : -9223372036854775808 ≤ x ∧ x ≤ 9223372036854775807) (hy : -9223372036854775808 ≤ y ∧ y ≤ 9223372036854775807) (hI : (r ≤ 2 ∧ Below W5.heap.size W5 w))
    (hK : ∀ (v6 v13 v14 v15 v16 v17 v80 v81 v82 v83 v84 v85 v86 v87 v88 v89 v90 v91 v92 v93 v94 v95 v96 v97 v98 v99 v100 v101 v102 v103 v104 v105 v106 v107 v108 v109 v110 v111 v112 v113 v114 v115 v116 v117 v118 v119 v120 v121 v122 v123 v124 v125 v126 v127 v128 v129 v130 v131 v132 v133 : Value)  (V : World), ((r + 1) ≤ 2 ∧ Below W5.heap.size W5 V) → 2 - (r + 1) < 2 - r → K ⟨List.toArray (u0 :: (.int .i64 x) :: (.int .i64 y) :: u3 :: u4 :: u5 :: v6 :: (.pointer (some ⟨gx, 0, none⟩)) :: (.slice (some ⟨ga, 0, none⟩) 32 32) :: (.slice (some ⟨gb, 0, none⟩) 32 32) :: u10 :: u11 :: u12 :: v13 :: v14 :: v15 :: v16 :: v17 :: u18 :: u19 :: u20 :: u21 :: u22 :: u23 :: u24 :: u25 :: u26 :: u27 :: u28 :: u29 :: u30 :: u31 :: u32 :: u33 :: u34 :: u35 :: u36 :: u37 :: u38 :: u39 :: u40 :: u41 :: u42 :: u43 :: u44 :: u45 :: u46 :: u47 :: u48 :: u49 :: u50 :: u51 :: u52 :: u53 :: u54 :: u55 :: u56 :: u57 :: u58 :: u59 :: u60 :: u61 :: u62 :: u63 :: u64 :: u65 :: u66 :: u67 :: u68 :: u69 :: u70 :: u71 :: u72 :: u73 :: u74 :: u75 :: u76 :: (.slice (some ⟨gt, 0, none⟩) 2 2) :: (.int .i64 2) :: (.int .i64 (((r + 1) : Nat) : Int)) :: v80 :: v81 :: v82 :: v83 :: v84 :: v85 :: v86 :: v87 :: v88 :: v89 :: v90 :: v91 :: v92 :: v93 :: v94 :: v95 :: v96 :: v97 :: v98 :: v99 :: v100 :: v101 :: v102 :: v103 :: v104 :: v105 :: v106 :: v107 :: v108 :: v109 :: v110 :: v111 :: v112 :: v113 :: v114 :: v115 :: v116 :: v117 :: v118 :: v119 :: v120 :: v121 :: v122 :: v123 :: v124 :: v125 :: v126 :: v127 :: v128 :: v129 :: v130 :: v131 :: v132 :: v133 :: u134 :: u135 :: u136 :: u137 :: u138 :: u139 :: u140 :: u141 :: u142 :: u143 :: u144 :: u145 :: u146 :: u147 :: u148 :: u149 :: u150 :: u151 :: u152 :: u153 :: u154 :: u155 :: u156 :: u157 :: u158 :: u159 :: u160 :: u161 :: u162 :: u163 :: u164 :: u165 :: u166 :: u167 :: u168 :: u169 :: u170 :: u171 :: u172 :: u173 :: u174 :: u175 :: u176 :: u177 :: u178 :: u179 :: u180 :: u181 :: u182 :: u183 :: u184 :: u185 :: u186 :: u187 :: u188 :: u189 :: u190 :: u191 :: u192 :: u193 :: u194 :: u195 :: u196 :: u197 :: u198 :: u199 :: u200 :: u201 :: u202 :: u203 :: []), []⟩ V)
    (hX : ∀ (v6 v13 v14 v15 v16 v17 v80 v81 v82 v83 v84 v85 v86 v87 v88 v89 v90 v91 v92 v93 v94 v95 v96 v97 v98 v99 v100 v101 v102 v103 v104 v105 v106 v107 v108 v109 v110 v111 v112 v113 v114 v115 v116 v117 v118 v119 v120 v121 v122 v123 v124 v125 v126 v127 v128 v129 v130 v131 v132 v133 : Value), (True) → Q0 (.exit 2) ⟨List.toArray (u0 :: (.int .i64 x) :: (.int .i64 y) :: u3 :: u4 :: u5 :: v6 :: (.pointer (some ⟨gx, 0, none⟩)) :: (.slice (some ⟨ga, 0, none⟩) 32 32) :: (.slice (some ⟨gb, 0, none⟩) 32 32) :: u10 :: u11 :: u12 :: v13 :: v14 :: v15 :: v16 :: v17 :: u18 :: u19 :: u20 :: u21 :: u22 :: u23 :: u24 :: u25 :: u26 :: u27 :: u28 :: u29 :: u30 :: u31 :: u32 :: u33 :: u34 :: u35 :: u36 :: u37 :: u38 :: u39 :: u40 :: u41 :: u42 :: u43 :: u44 :: u45 :: u46 :: u47 :: u48 :: u49 :: u50 :: u51 :: u52 :: u53 :: u54 :: u55 :: u56 :: u57 :: u58 :: u59 :: u60 :: u61 :: u62 :: u63 :: u64 :: u65 :: u66 :: u67 :: u68 :: u69 :: u70 :: u71 :: u72 :: u73 :: u74 :: u75 :: u76 :: (.slice (some ⟨gt, 0, none⟩) 2 2) :: (.int .i64 2) :: (.int .i64 ((r : Nat) : Int)) :: v80 :: v81 :: v82 :: v83 :: v84 :: v85 :: v86 :: v87 :: v88 :: v89 :: v90 :: v91 :: v92 :: v93 :: v94 :: v95 :: v96 :: v97 :: v98 :: v99 :: v100 :: v101 :: v102 :: v103 :: v104 :: v105 :: v106 :: v107 :: v108 :: v109 :: v110 :: v111 :: v112 :: v113 :: v114 :: v115 :: v116 :: v117 :: v118 :: v119 :: v120 :: v121 :: v122 :: v123 :: v124 :: v125 :: v126 :: v127 :: v128 :: v129 :: v130 :: v131 :: v132 :: v133 :: u134 :: u135 :: u136 :: u137 :: u138 :: u139 :: u140 :: u141 :: u142 :: u143 :: u144 :: u145 :: u146 :: u147 :: u148 :: u149 :: u150 :: u151 :: u152 :: u153 :: u154 :: u155 :: u156 :: u157 :: u158 :: u159 :: u160 :: u161 :: u162 :: u163 :: u164 :: u165 :: u166 :: u167 :: u168 :: u169 :: u170 :: u171 :: u172 :: u173 :: u174 :: u175 :: u176 :: u177 :: u178 :: u179 :: u180 :: u181 :: u182 :: u183 :: u184 :: u185 :: u186 :: u187 :: u188 :: u189 :: u190 :: u191 :: u192 :: u193 :: u194 :: u195 :: u196 :: u197 :: u198 :: u199 :: u200 :: u201 :: u202 :: u203 :: []), []⟩ w) :
    Code.wp Try.prog (sub [1, 1, 1, 1, 1, 0, 1, 0, 0] codeRF) (Exit.then K Q0) ⟨List.toArray (u0 :: (.int .i64 x) :: (.int .i64 y) :: u3 :: u4 :: u5 :: u6 :: (.pointer (some ⟨gx, 0, none⟩)) :: (.slice (some ⟨ga, 0, none⟩) 32 32) :: (.slice (some ⟨gb, 0, none⟩) 32 32) :: u10 :: u11 :: u12 :: u13 :: u14 :: u15 :: u16 :: u17 :: u18 :: u19 :: u20 :: u21 :: u22 :: u23 :: u24 :: u25 :: u26 :: u27 :: u28 :: u29 :: u30 :: u31 :: u32 :: u33 :: u34 :: u35 :: u36 :: u37 :: u38 :: u39 :: u40 :: u41 :: u42 :: u43 :: u44 :: u45 :: u46 :: u47 :: u48 :: u49 :: u50 :: u51 :: u52 :: u53 :: u54 :: u55 :: u56 :: u57 :: u58 :: u59 :: u60 :: u61 :: u62 :: u63 :: u64 :: u65 :: u66 :: u67 :: u68 :: u69 :: u70 :: u71 :: u72 :: u73 :: u74 :: u75 :: u76 :: (.slice (some ⟨gt, 0, none⟩) 2 2) :: (.int .i64 2) :: (.int .i64 ((r : Nat) : Int)) :: u80 :: u81 :: u82 :: u83 :: u84 :: u85 :: u86 :: u87 :: u88 :: u89 :: u90 :: u91 :: u92 :: u93 :: u94 :: u95 :: u96 :: u97 :: u98 :: u99 :: u100 :: u101 :: u102 :: u103 :: u104 :: u105 :: u106 :: u107 :: u108 :: u109 :: u110 :: u111 :: u112 :: u113 :: u114 :: u115 :: u116 :: u117 :: u118 :: u119 :: u120 :: u121 :: u122 :: u123 :: u124 :: u125 :: u126 :: u127 :: u128 :: u129 :: u130 :: u131 :: u132 :: u133 :: u134 :: u135 :: u136 :: u137 :: u138 :: u139 :: u140 :: u141 :: u142 :: u143 :: u144 :: u145 :: u146 :: u147 :: u148 :: u149 :: u150 :: u151 :: u152 :: u153 :: u154 :: u155 :: u156 :: u157 :: u158 :: u159 :: u160 :: u161 :: u162 :: u163 :: u164 :: u165 :: u166 :: u167 :: u168 :: u169 :: u170 :: u171 :: u172 :: u173 :: u174 :: u175 :: u176 :: u177 :: u178 :: u179 :: u180 :: u181 :: u182 :: u183 :: u184 :: u185 :: u186 :: u187 :: u188 :: u189 :: u190 :: u191 :: u192 :: u193 :: u194 :: u195 :: u196 :: u197 :: u198 :: u199 :: u200 :: u201 :: u202 :: u203 :: []), []⟩ w := by
  have HK := Lib.hid hK
  have HX := Lib.hid hX
  clear hK hX
  conv => arg 2; whnf
  obtain ⟨hr, hb⟩ := hI
  by_cases hlt : r < 2
  · have r0 : (0 : Int) ≤ (r : Int) := by omega
    have r1 : (r : Int) < 2 := by omega
    obtain ⟨Aw, cw, zw, hrw⟩ := ht r hlt
    rw [← hb.cell (p := ⟨gt, r, none⟩) hgt] at zw
    have hk : plOk 6 4 1 (r : Int) = true := plOk_mk (by decide) (by omega) (by omega)
    have hok := forms_ok hk hal hbl
    have Hr := Lib.hid (forms_right hk hal hbl)
    have CW1 := Lib.hid (fun V => within_any x 4 V hx (by omega))
    have CW2 := Lib.hid (fun V => within_any y 4 V hy (by omega))
    have b1 := withinI_bd x 4 (by omega)
    have b2 := withinI_bd y 4 (by omega)
    obtain ⟨i, hi⟩ := Int.eq_ofNat_of_zero_le b1.1
    obtain ⟨j, hj⟩ := Int.eq_ofNat_of_zero_le b2.1
    rw [hi] at CW1 b1
    rw [hj] at CW2 b2
    have hi4 : i < 4 := by omega
    have hj4 : j < 4 := by omega
    have Ht := Lib.hid (forms_take hk hal hbl hi4 hj4)
    have CF := Lib.hid (fun (A : Option Addr) V (h : RdR V V.heap.size A [sa, sb]) => fill_good (n := 2) (cp := 2) (D := 4) (F := roF 6 4 1 (r : Int)) (l := 6) (d := 4) (c := 1) (r := (r : Int)) h rfl hok rfl rfl (by omega) (by omega) (by omega) (by omega))
    have CR := Lib.hid (fun (A : Option Addr) (xs : List (List UInt8)) V (hn : xs.length = 4) (h : RdR V V.heap.size A xs) => right_any A xs 4 4 6 4 1 (r : Int) V hn (by omega) h (by omega) (by omega) (by omega) (by omega))
    have CT := Lib.hid (fun (A : Option Addr) (xs : List (List UInt8)) V (hn : xs.length = 4) (h : RdR V V.heap.size A xs) => take_any A xs 4 4 6 4 1 (r : Int) V hn (by omega) h (by omega) (by omega) (by omega) (by omega))
    have hfl := fillL_len 4 (roF 6 4 1 (r : Int)) [sa, sb]
    generalize fillL 4 (roF 6 4 1 (r : Int)) [sa, sb] = fl at Hr Ht CF hfl hrw
    have Hra := Lib.hid hra
    have Hrb := Lib.hid hrb
    have Hg := Lib.hid hg
    have Hrw := Lib.hid hrw
    have i0 : (0 : Int) ≤ (i : Int) := by omega
    have i1 : (i : Int) < 4 := by omega
    have j0 : (0 : Int) ≤ (j : Int) := by omega
    have j1 : (j : Int) < 4 := by omega
    have hrd := fun V (h : Below W5.heap.size W5 V) => rdr_block2 (hp_new V (.cells #[.slice (some ⟨ga, 0, none⟩) 32 32, .slice (some ⟨gb, 0, none⟩) 32 32] 24) _ rfl) hal.symm hbl.symm (((Hra.out.below h (Nat.le_refl _)).more h.size |>.below (below1 V _) (Nat.le_refl _)).more (by simp)) (((Hrb.out.below h (Nat.le_refl _)).more h.size |>.below (below1 V _) (Nat.le_refl _)).more (by simp)) (Nat.le_refl _)
    have Hrd := Lib.hid hrd
    clear HX ht hi hj hk hok hra hrb hg hx hy hrw hrd
    obtain ⟨g1, g2, g3⟩ := Hg.out.below hb hgx
    have CF1 := Lib.hid (CF.out _ _ (Hrd.out w hb))
    have hb1 := hb.alloc hb.size (.cells #[.slice (some ⟨ga, 0, none⟩) 32 32, .slice (some ⟨gb, 0, none⟩) 32 32] 24)
    go_wp2_with fail
    generalize w.alloc (.cells #[.slice (some ⟨ga, 0, none⟩) 32 32, .slice (some ⟨gb, 0, none⟩) 32 32] 24) = w1 at CF1 hb1 ⊢
    generalize w.heap.size = gz at CF1 ⊢
    (with_reducible refine CF1.out.mono ?_); rintro e w2 ⟨g, vs, rfl, hq, hb2⟩
    have B2 := hb1.trans (hb2.mono hb1.size)
    have hs1 := hb1.size
    clear g1 g2 g3 CF1 hb1 hb2 hb CF
    have CS1 := Lib.hid (sameRowsT (c := 4) (c' := cw) hfl hfl (hq.rdr (by omega)) ((Hrw.out.below B2 (Nat.le_refl _)).more B2.size))
    go_wp2_with fail
    (with_reducible refine CS1.out.mono ?_); rintro e w3 ⟨rfl, hb3⟩
    have B3 := B2.trans (hb3.mono B2.size)
    have hq3 := hq.below hb3
    clear CS1 hq hb3 B2
    obtain ⟨g1, g2, g3⟩ := Hg.out.below B3 hgx
    have CR1 := Lib.hid (CR.out _ _ _ hfl (hq3.rdr (by omega)))
    rw [Hr.out] at CR1
    go_wp2_with fail
    (with_reducible refine CR1.out.mono ?_); rintro e w4 ⟨rfl, hb4⟩
    have B4 := B3.trans (hb4.mono B3.size)
    have hq4 := hq3.below hb4
    clear CR1 CR hq3 hb4 B3 g1 g2 g3
    go_wp2_with fail
    (with_reducible refine (CW1.out _).mono ?_); rintro e w5 ⟨rfl, hw5⟩
    subst hw5
    go_wp2_with fail
    (with_reducible refine (CW2.out _).mono ?_); rintro e w6 ⟨rfl, hw6⟩
    subst hw6
    have hgB := hq4.glt
    obtain ⟨A5, c5, _, z5, _⟩ := hq4.at i hi4
    have f5 := hq4.fz i
    obtain ⟨hq5, hgr5⟩ := hq4.gone i hi4
    obtain ⟨A6, c6, _, z6, _⟩ := hq5.at j hj4
    have f6 := hq5.fz j
    obtain ⟨hq6, hgr6⟩ := hq5.gone j hj4
    have B6 := (B4.setCell (p := ⟨g, i, none⟩) (by show W5.heap.size ≤ g; omega) (.slice none 0 0)).setCell (p := ⟨g, j, none⟩) (by show W5.heap.size ≤ g; omega) (.slice none 0 0)
    have hl6 : ((fl.set i []).set j []).length = 4 := by rw [List.length_set, List.length_set]; exact hfl
    have CT1 := Lib.hid (CT.out _ _ _ hl6 (hq6.rdr (by omega)))
    rw [Ht.out] at CT1
    have Hg6 := Lib.hid (Hg.out.below B6 hgx)
    clear hq4 hq5 hq6 hgr5 hgr6 B4 CT Ht hl6 CW1 CW2 hgB hs1
    obtain ⟨g1, g2, g3⟩ := Hg6.out
    go_wp2_with fail
    (with_reducible refine CT1.out.mono ?_); rintro e w8 hS
    obtain ⟨g8, c8, rfl, ho8, hb8⟩ := hS
    have B8 := B6.trans (hb8.mono B6.size)
    clear g1 g2 g3 Hg6 CT1 B6 hb8
    have CS2 := Lib.hid (sameRowsT (n := 2) (n' := 2) (c := c8) (c' := 2) rfl rfl ((ho8.below (below1 w8 (.cells #[.slice (some ⟨ga, 0, none⟩) 32 32, .slice (some ⟨gb, 0, none⟩) 32 32] 24))).rdr (by simp)) (Hrd.out w8 B8))
    have B9 := B8.alloc B8.size (.cells #[.slice (some ⟨ga, 0, none⟩) 32 32, .slice (some ⟨gb, 0, none⟩) 32 32] 24)
    clear ho8 B8
    go_wp2_with fail
    (with_reducible refine CS2.out.mono ?_); rintro e w9 ⟨rfl, hb9⟩
    have B10 := B9.trans (hb9.mono B9.size)
    clear CS2 B9 hb9
    go_wp2_with fail
    exact HK.out _ _ _ _ _ _ _ _ _ _ _ _ _ _ _ _ _ _ _ _ _ _ _ _ _ _ _ _ _ _ _ _ _ _ _ _ _ _ _ _ _ _ _ _ _ _ _ _ _ _ _ _ _ _ _ _ _ _ _ _ _ ⟨by omega, B10⟩ (by omega)
  · have i1 : ¬ (r : Int) < 2 := by omega
    clear HK hg hra hrb ht
    go_wp2_with fail
    exact HX.out _ _ _ _ _ _ _ _ _ _ _ _ _ _ _ _ _ _ _ _ _ _ _ _ _ _ _ _ _ _ _ _ _ _ _ _ _ _ _ _ _ _ _ _ _ _ _ _ _ _ _ _ _ _ _ _ _ _ _ _ (by trivial)
set_option maxRecDepth 100000 in
set_option maxHeartbeats 3200000 in
theorem rfB {W5 : World} {x y : Int} {gx ga gb gt : Nat} {sa sb : List UInt8}  {w : World} (u0 u3 u4 u5 u6 u10 u11 u12 u13 u14 u15 u16 u17 u18 u19 u20 u21 u22 u23 u24 u25 u26 u27 u28 u29 u30 u31 u32 u33 u34 u35 u36 u37 u38 u39 u40 u41 u42 u43 u44 u45 u46 u47 u48 u49 u50 u51 u52 u53 u54 u55 u56 u57 u58 u59 u60 u61 u62 u63 u64 u65 u66 u67 u68 u69 u70 u71 u72 u73 u74 u75 u76 u80 u81 u82 u83 u84 u85 u86 u87 u88 u89 u90 u91 u92 u93 u94 u95 u96 u97 u98 u99 u100 u101 u102 u103 u104 u105 u106 u107 u108 u109 u110 u111 u112 u113 u114 u115 u116 u117 u118 u119 u120 u121 u122 u123 u124 u125 u126 u127 u128 u129 u130 u131 u132 u133 u134 u135 u136 u137 u138 u139 u140 u141 u142 u143 u144 u145 u146 u147 u148 u149 u150 u151 u152 u153 u154 u155 u156 u157 u158 u159 u160 u161 u162 u163 u164 u165 u166 u167 u168 u169 u170 u171 u172 u173 u174 u175 u176 u177 u178 u179 u180 u181 u182 u183 u184 u185 u186 u187 u188 u189 u190 u191 u192 u193 u194 u195 u196 u197 u198 u199 u200 u201 u202 u203 : Value) (Q : Exit → Act → World → Prop) (hg : GAt W5 gx 6 4 1) (hgx : gx < W5.heap.size) (hra : RdB W5 W5.heap.size (some ⟨ga, 0, none⟩) sa) (hrb : RdB W5 W5.heap.size (some ⟨gb, 0, none⟩) sb) (hal : sa.length = 32) (hbl : sb.length = 32) (hgt : gt < W5.heap.size) (ht : ∀ r : Nat, r < 2 → ∃ Aw cw, W5.cell? ⟨gt, r, none⟩ = some (.slice Aw 4 cw) ∧ RdR W5 W5.heap.size Aw (fillL 4 (roF 6 4 1 (r : Int)) [sa, sb])) (hx : -9223372036854775808 ≤ x ∧ x ≤ 9223372036854775807) (hy : -9223372036854775808 ≤ y ∧ y ≤ 9223372036854775807) (hI : (0 ≤ 2 ∧ Below W5.heap.size W5 w))
    (hX : ∀ (v6 v13 v14 v15 v16 v17 v80 v81 v82 v83 v84 v85 v86 v87 v88 v89 v90 v91 v92 v93 v94 v95 v96 v97 v98 v99 v100 v101 v102 v103 v104 v105 v106 v107 v108 v109 v110 v111 v112 v113 v114 v115 v116 v117 v118 v119 v120 v121 v122 v123 v124 v125 v126 v127 v128 v129 v130 v131 v132 v133 : Value) (r : Nat) (V : World), (r ≤ 2 ∧ Below W5.heap.size W5 V) → (True) → Q (.exit 2) ⟨List.toArray (u0 :: (.int .i64 x) :: (.int .i64 y) :: u3 :: u4 :: u5 :: v6 :: (.pointer (some ⟨gx, 0, none⟩)) :: (.slice (some ⟨ga, 0, none⟩) 32 32) :: (.slice (some ⟨gb, 0, none⟩) 32 32) :: u10 :: u11 :: u12 :: v13 :: v14 :: v15 :: v16 :: v17 :: u18 :: u19 :: u20 :: u21 :: u22 :: u23 :: u24 :: u25 :: u26 :: u27 :: u28 :: u29 :: u30 :: u31 :: u32 :: u33 :: u34 :: u35 :: u36 :: u37 :: u38 :: u39 :: u40 :: u41 :: u42 :: u43 :: u44 :: u45 :: u46 :: u47 :: u48 :: u49 :: u50 :: u51 :: u52 :: u53 :: u54 :: u55 :: u56 :: u57 :: u58 :: u59 :: u60 :: u61 :: u62 :: u63 :: u64 :: u65 :: u66 :: u67 :: u68 :: u69 :: u70 :: u71 :: u72 :: u73 :: u74 :: u75 :: u76 :: (.slice (some ⟨gt, 0, none⟩) 2 2) :: (.int .i64 2) :: (.int .i64 ((r : Nat) : Int)) :: v80 :: v81 :: v82 :: v83 :: v84 :: v85 :: v86 :: v87 :: v88 :: v89 :: v90 :: v91 :: v92 :: v93 :: v94 :: v95 :: v96 :: v97 :: v98 :: v99 :: v100 :: v101 :: v102 :: v103 :: v104 :: v105 :: v106 :: v107 :: v108 :: v109 :: v110 :: v111 :: v112 :: v113 :: v114 :: v115 :: v116 :: v117 :: v118 :: v119 :: v120 :: v121 :: v122 :: v123 :: v124 :: v125 :: v126 :: v127 :: v128 :: v129 :: v130 :: v131 :: v132 :: v133 :: u134 :: u135 :: u136 :: u137 :: u138 :: u139 :: u140 :: u141 :: u142 :: u143 :: u144 :: u145 :: u146 :: u147 :: u148 :: u149 :: u150 :: u151 :: u152 :: u153 :: u154 :: u155 :: u156 :: u157 :: u158 :: u159 :: u160 :: u161 :: u162 :: u163 :: u164 :: u165 :: u166 :: u167 :: u168 :: u169 :: u170 :: u171 :: u172 :: u173 :: u174 :: u175 :: u176 :: u177 :: u178 :: u179 :: u180 :: u181 :: u182 :: u183 :: u184 :: u185 :: u186 :: u187 :: u188 :: u189 :: u190 :: u191 :: u192 :: u193 :: u194 :: u195 :: u196 :: u197 :: u198 :: u199 :: u200 :: u201 :: u202 :: u203 :: []), []⟩ V) :
    Code.wp Try.prog (.loop (sub [1, 1, 1, 1, 1, 0, 1, 0, 0] codeRF)) Q ⟨List.toArray (u0 :: (.int .i64 x) :: (.int .i64 y) :: u3 :: u4 :: u5 :: u6 :: (.pointer (some ⟨gx, 0, none⟩)) :: (.slice (some ⟨ga, 0, none⟩) 32 32) :: (.slice (some ⟨gb, 0, none⟩) 32 32) :: u10 :: u11 :: u12 :: u13 :: u14 :: u15 :: u16 :: u17 :: u18 :: u19 :: u20 :: u21 :: u22 :: u23 :: u24 :: u25 :: u26 :: u27 :: u28 :: u29 :: u30 :: u31 :: u32 :: u33 :: u34 :: u35 :: u36 :: u37 :: u38 :: u39 :: u40 :: u41 :: u42 :: u43 :: u44 :: u45 :: u46 :: u47 :: u48 :: u49 :: u50 :: u51 :: u52 :: u53 :: u54 :: u55 :: u56 :: u57 :: u58 :: u59 :: u60 :: u61 :: u62 :: u63 :: u64 :: u65 :: u66 :: u67 :: u68 :: u69 :: u70 :: u71 :: u72 :: u73 :: u74 :: u75 :: u76 :: (.slice (some ⟨gt, 0, none⟩) 2 2) :: (.int .i64 2) :: (.int .i64 ((0 : Nat) : Int)) :: u80 :: u81 :: u82 :: u83 :: u84 :: u85 :: u86 :: u87 :: u88 :: u89 :: u90 :: u91 :: u92 :: u93 :: u94 :: u95 :: u96 :: u97 :: u98 :: u99 :: u100 :: u101 :: u102 :: u103 :: u104 :: u105 :: u106 :: u107 :: u108 :: u109 :: u110 :: u111 :: u112 :: u113 :: u114 :: u115 :: u116 :: u117 :: u118 :: u119 :: u120 :: u121 :: u122 :: u123 :: u124 :: u125 :: u126 :: u127 :: u128 :: u129 :: u130 :: u131 :: u132 :: u133 :: u134 :: u135 :: u136 :: u137 :: u138 :: u139 :: u140 :: u141 :: u142 :: u143 :: u144 :: u145 :: u146 :: u147 :: u148 :: u149 :: u150 :: u151 :: u152 :: u153 :: u154 :: u155 :: u156 :: u157 :: u158 :: u159 :: u160 :: u161 :: u162 :: u163 :: u164 :: u165 :: u166 :: u167 :: u168 :: u169 :: u170 :: u171 :: u172 :: u173 :: u174 :: u175 :: u176 :: u177 :: u178 :: u179 :: u180 :: u181 :: u182 :: u183 :: u184 :: u185 :: u186 :: u187 :: u188 :: u189 :: u190 :: u191 :: u192 :: u193 :: u194 :: u195 :: u196 :: u197 :: u198 :: u199 :: u200 :: u201 :: u202 :: u203 :: []), []⟩ w := by
  refine wp_loop_ghost (fun gk a V => ∀ C : Prop, (∀ (u6 u13 u14 u15 u16 u17 u80 u81 u82 u83 u84 u85 u86 u87 u88 u89 u90 u91 u92 u93 u94 u95 u96 u97 u98 u99 u100 u101 u102 u103 u104 u105 u106 u107 u108 u109 u110 u111 u112 u113 u114 u115 u116 u117 u118 u119 u120 u121 u122 u123 u124 u125 u126 u127 u128 u129 u130 u131 u132 u133 : Value) (r : Nat), gk = 2 - r → (r ≤ 2 ∧ Below W5.heap.size W5 V) → a = ⟨List.toArray (u0 :: (.int .i64 x) :: (.int .i64 y) :: u3 :: u4 :: u5 :: u6 :: (.pointer (some ⟨gx, 0, none⟩)) :: (.slice (some ⟨ga, 0, none⟩) 32 32) :: (.slice (some ⟨gb, 0, none⟩) 32 32) :: u10 :: u11 :: u12 :: u13 :: u14 :: u15 :: u16 :: u17 :: u18 :: u19 :: u20 :: u21 :: u22 :: u23 :: u24 :: u25 :: u26 :: u27 :: u28 :: u29 :: u30 :: u31 :: u32 :: u33 :: u34 :: u35 :: u36 :: u37 :: u38 :: u39 :: u40 :: u41 :: u42 :: u43 :: u44 :: u45 :: u46 :: u47 :: u48 :: u49 :: u50 :: u51 :: u52 :: u53 :: u54 :: u55 :: u56 :: u57 :: u58 :: u59 :: u60 :: u61 :: u62 :: u63 :: u64 :: u65 :: u66 :: u67 :: u68 :: u69 :: u70 :: u71 :: u72 :: u73 :: u74 :: u75 :: u76 :: (.slice (some ⟨gt, 0, none⟩) 2 2) :: (.int .i64 2) :: (.int .i64 ((r : Nat) : Int)) :: u80 :: u81 :: u82 :: u83 :: u84 :: u85 :: u86 :: u87 :: u88 :: u89 :: u90 :: u91 :: u92 :: u93 :: u94 :: u95 :: u96 :: u97 :: u98 :: u99 :: u100 :: u101 :: u102 :: u103 :: u104 :: u105 :: u106 :: u107 :: u108 :: u109 :: u110 :: u111 :: u112 :: u113 :: u114 :: u115 :: u116 :: u117 :: u118 :: u119 :: u120 :: u121 :: u122 :: u123 :: u124 :: u125 :: u126 :: u127 :: u128 :: u129 :: u130 :: u131 :: u132 :: u133 :: u134 :: u135 :: u136 :: u137 :: u138 :: u139 :: u140 :: u141 :: u142 :: u143 :: u144 :: u145 :: u146 :: u147 :: u148 :: u149 :: u150 :: u151 :: u152 :: u153 :: u154 :: u155 :: u156 :: u157 :: u158 :: u159 :: u160 :: u161 :: u162 :: u163 :: u164 :: u165 :: u166 :: u167 :: u168 :: u169 :: u170 :: u171 :: u172 :: u173 :: u174 :: u175 :: u176 :: u177 :: u178 :: u179 :: u180 :: u181 :: u182 :: u183 :: u184 :: u185 :: u186 :: u187 :: u188 :: u189 :: u190 :: u191 :: u192 :: u193 :: u194 :: u195 :: u196 :: u197 :: u198 :: u199 :: u200 :: u201 :: u202 :: u203 :: []), []⟩ → C) → C) (2 - 0) ?_ ?_
  · intro C hC
    exact hC _ _ _ _ _ _ _ _ _ _ _ _ _ _ _ _ _ _ _ _ _ _ _ _ _ _ _ _ _ _ _ _ _ _ _ _ _ _ _ _ _ _ _ _ _ _ _ _ _ _ _ _ _ _ _ _ _ _ _ _ (0) rfl hI rfl
  · intro gk a V hI'
    refine hI' _ ?_
    intro u6 u13 u14 u15 u16 u17 u80 u81 u82 u83 u84 u85 u86 u87 u88 u89 u90 u91 u92 u93 u94 u95 u96 u97 u98 u99 u100 u101 u102 u103 u104 u105 u106 u107 u108 u109 u110 u111 u112 u113 u114 u115 u116 u117 u118 u119 u120 u121 u122 u123 u124 u125 u126 u127 u128 u129 u130 u131 u132 u133 r hk hinv ha
    subst ha
    subst hk
    refine rfBb _ _ _ _ _ _ _ _ _ _ _ _ _ _ _ _ _ _ _ _ _ _ _ _ _ _ _ _ _ _ _ _ _ _ _ _ _ _ _ _ _ _ _ _ _ _ _ _ _ _ _ _ _ _ _ _ _ _ _ _ _ _ _ _ _ _ _ _ _ _ _ _ _ _ _ _ _ _ _ _ _ _ _ _ _ _ _ _ _ _ _ _ _ _ _ _ _ _ _ _ _ _ _ _ _ _ _ _ _ _ _ _ _ _ _ _ _ _ _ _ _ _ _ _ _ _ _ _ _ _ _ _ _ _ _ _ _ _ _ _ _ _ _ _ _ _ _ _ _ _ _ _ _ _ _ _ _ _ _ _ _ _ _ _ _ _ _ _ _ _ _ _ _ _ _ _ _ _ _ _ _ _ _ _ _ _ _ _ _ _ _ _ _ _ _ _ _ _ hg hgx hra hrb hal hbl hgt ht hx hy hinv (fun v6 v13 v14 v15 v16 v17 v80 v81 v82 v83 v84 v85 v86 v87 v88 v89 v90 v91 v92 v93 v94 v95 v96 v97 v98 v99 v100 v101 v102 v103 v104 v105 v106 v107 v108 v109 v110 v111 v112 v113 v114 v115 v116 v117 v118 v119 v120 v121 v122 v123 v124 v125 v126 v127 v128 v129 v130 v131 v132 v133  V2 h2 hm => ?_) (fun v6 v13 v14 v15 v16 v17 v80 v81 v82 v83 v84 v85 v86 v87 v88 v89 v90 v91 v92 v93 v94 v95 v96 v97 v98 v99 v100 v101 v102 v103 v104 v105 v106 v107 v108 v109 v110 v111 v112 v113 v114 v115 v116 v117 v118 v119 v120 v121 v122 v123 v124 v125 v126 v127 v128 v129 v130 v131 v132 v133 hx => hX v6 v13 v14 v15 v16 v17 v80 v81 v82 v83 v84 v85 v86 v87 v88 v89 v90 v91 v92 v93 v94 v95 v96 v97 v98 v99 v100 v101 v102 v103 v104 v105 v106 v107 v108 v109 v110 v111 v112 v113 v114 v115 v116 v117 v118 v119 v120 v121 v122 v123 v124 v125 v126 v127 v128 v129 v130 v131 v132 v133 r V hinv hx)
    refine ⟨_, hm, fun C hC => ?_⟩
    exact hC v6 v13 v14 v15 v16 v17 v80 v81 v82 v83 v84 v85 v86 v87 v88 v89 v90 v91 v92 v93 v94 v95 v96 v97 v98 v99 v100 v101 v102 v103 v104 v105 v106 v107 v108 v109 v110 v111 v112 v113 v114 v115 v116 v117 v118 v119 v120 v121 v122 v123 v124 v125 v126 v127 v128 v129 v130 v131 v132 v133 ((r + 1)) rfl h2 rfl
end Go.Proofs.Ytbojmofkhkegmaa
