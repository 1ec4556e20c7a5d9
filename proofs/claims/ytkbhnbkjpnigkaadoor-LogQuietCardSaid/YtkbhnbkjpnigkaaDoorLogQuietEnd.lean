/- LogQuiet: what is read at the end. -/
import Derived.Test.YtkbhnbkjpnigkaaDoorLogQuietLoops
set_option linter.unusedVariables false
set_option linter.unusedSimpArgs false
namespace Go.Proofs.YtkbhnbkjpnigkaaDoor
open Go.RowKit

set_option maxRecDepth 100000 in
set_option maxHeartbeats 3200000 in
theorem lqCb {w0 : World} {b p c bc lg : Nat} {s : Int} {lv : List Bool} {A bA : Option Addr} {back : List Int} {l : List It} {H : BH} {M : Bch} {KK : List (Nat × Obj)} {i : Nat} {w : World} (u0 u1 u2 u4 u5 u6 u7 u8 u10 u12 u13 u14 u17 u18 u19 u20 u21 u22 u23 u24 u25 u26 u27 u28 u29 u30 u31 u32 u33 u34 u35 u36 u37 u38 u39 u40 u41 u42 u43 u44 u45 u46 u47 u48 u49 u50 u51 u52 u53 u54 u55 u56 u57 u58 u59 u60 u61 u62 u63 u64 u65 u66 u67 u68 u69 u70 u71 u72 u73 u74 u75 u76 u77 u78 u79 u80 u81 u82 u83 u84 u85 u86 u87 u88 u89 u90 u91 u92 u93 u94 u95 u96 u97 u98 u99 u100 u101 u102 u103 u104 u105 u106 u107 u108 u109 u110 u111 u112 u113 u114 u115 u116 u117 u118 u119 u120 u121 u122 u123 u124 u125 u126 u127 u128 u129 u130 u131 u132 u133 u134 u135 u136 u137 u138 u139 u140 u141 u142 u143 u144 u145 u146 u147 u148 u149 u150 u151 u152 u153 u154 u155 u156 u157 : Value) (K : Act → World → Prop) (Q0 : Exit → Act → World → Prop) (hb : RdZ w0 w0.heap.size bA back) (hmL : (lg, Obj.cells ((lv.map Value.bool).toArray) 4 (0, 0)) ∈ KK) (hmB : (p, Obj.cells #[.int .i64 s, .slice A l.length c] 29 (0, 0)) ∈ KK) (hl4 : lv.length = 4) (hn : M.n = 4) (hdn : M.down = false) (hf : ∀ j, j < 4 → (M.D j).f = false) (h32 : ∀ x ∈ l, x.b.length = 32) (hl3 : l.length ≤ 3) (hsec : ∀ i, i < 64 → secAt (M.D (i % 4)).now (36 + i / 4) = wnt l lv (i % 4) (36 + i / 4) (sectorB (nOf back i)) l.length) (hI : (i ≤ 64 ∧ KR w0 w b H M KK [(A, l)] (fun _ => False)))
    (hK : ∀ (v8 v17 v18 v20 v21 v22 v94 v95 v96 v97 v98 v99 v100 v101 v102 v103 v104 v105 v106 v107 v108 v109 v110 v111 v112 v113 v114 v115 v116 v117 v118 v119 v120 v121 v122 v123 v124 v125 v126 v127 v128 v129 v130 v131 v132 v133 v134 v135 v136 v137 v138 v139 v140 v141 v142 v143 v144 v145 v146 v147 v148 v149 v150 v151 v152 v153 v154 v155 v156 : Value)  (V : World), ((i + 1) ≤ 64 ∧ KR w0 V b H M KK [(A, l)] (fun _ => False)) → 64 - (i + 1) < 64 - i → K ⟨List.toArray (u0 :: u1 :: u2 :: (.slice bA back.length bc) :: u4 :: u5 :: u6 :: u7 :: v8 :: (.pointer (some ⟨b, 0, none⟩)) :: u10 :: (.pointer (some ⟨p, 0, none⟩)) :: u12 :: u13 :: u14 :: (.slice (some ⟨lg, 0, none⟩) 4 4) :: (.int .i64 (((i + 1) : Nat) : Int)) :: v17 :: v18 :: u19 :: v20 :: v21 :: v22 :: u23 :: u24 :: u25 :: u26 :: u27 :: u28 :: u29 :: u30 :: u31 :: u32 :: u33 :: u34 :: u35 :: u36 :: u37 :: u38 :: u39 :: u40 :: u41 :: u42 :: u43 :: u44 :: u45 :: u46 :: u47 :: u48 :: u49 :: u50 :: u51 :: u52 :: u53 :: u54 :: u55 :: u56 :: u57 :: u58 :: u59 :: u60 :: u61 :: u62 :: u63 :: u64 :: u65 :: u66 :: u67 :: u68 :: u69 :: u70 :: u71 :: u72 :: u73 :: u74 :: u75 :: u76 :: u77 :: u78 :: u79 :: u80 :: u81 :: u82 :: u83 :: u84 :: u85 :: u86 :: u87 :: u88 :: u89 :: u90 :: u91 :: u92 :: u93 :: v94 :: v95 :: v96 :: v97 :: v98 :: v99 :: v100 :: v101 :: v102 :: v103 :: v104 :: v105 :: v106 :: v107 :: v108 :: v109 :: v110 :: v111 :: v112 :: v113 :: v114 :: v115 :: v116 :: v117 :: v118 :: v119 :: v120 :: v121 :: v122 :: v123 :: v124 :: v125 :: v126 :: v127 :: v128 :: v129 :: v130 :: v131 :: v132 :: v133 :: v134 :: v135 :: v136 :: v137 :: v138 :: v139 :: v140 :: v141 :: v142 :: v143 :: v144 :: v145 :: v146 :: v147 :: v148 :: v149 :: v150 :: v151 :: v152 :: v153 :: v154 :: v155 :: v156 :: u157 :: []), []⟩ V)
    (hX : ∀ (v8 v17 v18 v20 v21 v22 v94 v95 v96 v97 v98 v99 v100 v101 v102 v103 v104 v105 v106 v107 v108 v109 v110 v111 v112 v113 v114 v115 v116 v117 v118 v119 v120 v121 v122 v123 v124 v125 v126 v127 v128 v129 v130 v131 v132 v133 v134 v135 v136 v137 v138 v139 v140 v141 v142 v143 v144 v145 v146 v147 v148 v149 v150 v151 v152 v153 v154 v155 v156 : Value), (i = 64) → Q0 (.exit 4) ⟨List.toArray (u0 :: u1 :: u2 :: (.slice bA back.length bc) :: u4 :: u5 :: u6 :: u7 :: v8 :: (.pointer (some ⟨b, 0, none⟩)) :: u10 :: (.pointer (some ⟨p, 0, none⟩)) :: u12 :: u13 :: u14 :: (.slice (some ⟨lg, 0, none⟩) 4 4) :: (.int .i64 ((i : Nat) : Int)) :: v17 :: v18 :: u19 :: v20 :: v21 :: v22 :: u23 :: u24 :: u25 :: u26 :: u27 :: u28 :: u29 :: u30 :: u31 :: u32 :: u33 :: u34 :: u35 :: u36 :: u37 :: u38 :: u39 :: u40 :: u41 :: u42 :: u43 :: u44 :: u45 :: u46 :: u47 :: u48 :: u49 :: u50 :: u51 :: u52 :: u53 :: u54 :: u55 :: u56 :: u57 :: u58 :: u59 :: u60 :: u61 :: u62 :: u63 :: u64 :: u65 :: u66 :: u67 :: u68 :: u69 :: u70 :: u71 :: u72 :: u73 :: u74 :: u75 :: u76 :: u77 :: u78 :: u79 :: u80 :: u81 :: u82 :: u83 :: u84 :: u85 :: u86 :: u87 :: u88 :: u89 :: u90 :: u91 :: u92 :: u93 :: v94 :: v95 :: v96 :: v97 :: v98 :: v99 :: v100 :: v101 :: v102 :: v103 :: v104 :: v105 :: v106 :: v107 :: v108 :: v109 :: v110 :: v111 :: v112 :: v113 :: v114 :: v115 :: v116 :: v117 :: v118 :: v119 :: v120 :: v121 :: v122 :: v123 :: v124 :: v125 :: v126 :: v127 :: v128 :: v129 :: v130 :: v131 :: v132 :: v133 :: v134 :: v135 :: v136 :: v137 :: v138 :: v139 :: v140 :: v141 :: v142 :: v143 :: v144 :: v145 :: v146 :: v147 :: v148 :: v149 :: v150 :: v151 :: v152 :: v153 :: v154 :: v155 :: v156 :: u157 :: []), []⟩ w) :
    Code.wp Tryd.prog (sub [1, 1, 1, 1, 1, 1, 1, 1, 1, 0, 1, 0, 0] codeLQ) (Exit.then K Q0) ⟨List.toArray (u0 :: u1 :: u2 :: (.slice bA back.length bc) :: u4 :: u5 :: u6 :: u7 :: u8 :: (.pointer (some ⟨b, 0, none⟩)) :: u10 :: (.pointer (some ⟨p, 0, none⟩)) :: u12 :: u13 :: u14 :: (.slice (some ⟨lg, 0, none⟩) 4 4) :: (.int .i64 ((i : Nat) : Int)) :: u17 :: u18 :: u19 :: u20 :: u21 :: u22 :: u23 :: u24 :: u25 :: u26 :: u27 :: u28 :: u29 :: u30 :: u31 :: u32 :: u33 :: u34 :: u35 :: u36 :: u37 :: u38 :: u39 :: u40 :: u41 :: u42 :: u43 :: u44 :: u45 :: u46 :: u47 :: u48 :: u49 :: u50 :: u51 :: u52 :: u53 :: u54 :: u55 :: u56 :: u57 :: u58 :: u59 :: u60 :: u61 :: u62 :: u63 :: u64 :: u65 :: u66 :: u67 :: u68 :: u69 :: u70 :: u71 :: u72 :: u73 :: u74 :: u75 :: u76 :: u77 :: u78 :: u79 :: u80 :: u81 :: u82 :: u83 :: u84 :: u85 :: u86 :: u87 :: u88 :: u89 :: u90 :: u91 :: u92 :: u93 :: u94 :: u95 :: u96 :: u97 :: u98 :: u99 :: u100 :: u101 :: u102 :: u103 :: u104 :: u105 :: u106 :: u107 :: u108 :: u109 :: u110 :: u111 :: u112 :: u113 :: u114 :: u115 :: u116 :: u117 :: u118 :: u119 :: u120 :: u121 :: u122 :: u123 :: u124 :: u125 :: u126 :: u127 :: u128 :: u129 :: u130 :: u131 :: u132 :: u133 :: u134 :: u135 :: u136 :: u137 :: u138 :: u139 :: u140 :: u141 :: u142 :: u143 :: u144 :: u145 :: u146 :: u147 :: u148 :: u149 :: u150 :: u151 :: u152 :: u153 :: u154 :: u155 :: u156 :: u157 :: []), []⟩ w := by
  have HK := Lib.hid hK
  have HX := Lib.hid hX
  clear hK hX
  conv => arg 2; whnf
  obtain ⟨hi, hKr⟩ := hI
  by_cases hlt : i < 64
  · have HK1 := Lib.hid hKr
    have Hb := Lib.hid (hb.keep (w' := w) hKr.kx.bp.bel.size fun p hp => hKr.kx.bp.bel.cell hp)
    have HmB := Lib.hid hmB
    have H32 := Lib.hid h32
    have HL := Lib.hid (fun (V : World) (hV : KR w0 V b H M KK [(A, l)] (fun _ => False)) j (hj : j < 4) => show V.cell? ⟨lg, j, none⟩ = some (.bool (lv.getD j false)) by
      rw [cell_of_row _ _ j _ _ _ (hV.kx.kp _ hmL).1, List.getElem?_toArray, List.getElem?_map, List.getElem?_eq_getElem (by omega)]
      simp [List.getD_eq_getElem?_getD, show j < lv.length by omega])
    have k0 : (0 : Int) ≤ (i : Int) := by omega
    have k1 : (i : Int) < 64 := by omega
    have hd4 : i % 4 < 4 := Nat.mod_lt _ (by omega)
    have he16 : i / 4 < 16 := by omega
    have t1 : (i : Int).tmod 4 = ((i % 4 : Nat) : Int) := by rw [Int.tmod_eq_emod_of_nonneg (by omega)]; omega
    have t2 : (i : Int).tdiv 4 = ((i / 4 : Nat) : Int) := by rw [Int.tdiv_eq_ediv_of_nonneg (by omega)]; omega
    have t3 : IntKind.i64.wrap ((i / 4 : Nat) : Int) = ((i / 4 : Nat) : Int) := by rw [IntKind.wrap_i64]; omega
    have t4 : IntKind.i64.wrap (36 + ((i / 4 : Nat) : Int)) = ((36 + i / 4 : Nat) : Int) := by rw [IntKind.wrap_i64]; omega
    have t5 : IntKind.i64.wrap ((i % 4 : Nat) : Int) = ((i % 4 : Nat) : Int) := by rw [IntKind.wrap_i64]; omega
    have t6 : IntKind.i64.wrap ((i : Int) + 1) = ((i + 1 : Nat) : Int) := by rw [IntKind.wrap_i64]; omega
    have Hsec := Lib.hid (hsec i hlt)
    have Hlen := Lib.hid (show (secAt (M.D (i % 4)).now (36 + i / 4)).length = 32 by rw [hsec i hlt]; exact wnt_len h32 (sectorB_len _) _)
    have HR := Lib.hid (Bch.read_ok (N := M) (d := i % 4) (k := 36 + i / 4) (by rw [hn]; exact hd4) (by omega) (hf _ hd4) hdn)
    have HT := Lib.hid (show decide (secAt (M.D (i % 4)).now (36 + i / 4) = secAt (M.D (i % 4)).now (36 + i / 4)) = true from decide_eq_true rfl)
    obtain ⟨d, hd⟩ : ∃ d, i % 4 = d := ⟨_, rfl⟩
    obtain ⟨e, he⟩ : ∃ e, i / 4 = e := ⟨_, rfl⟩
    have Hse := Lib.hid (show ∀ x, secAt (M.D (i % 4)).now (36 + i / 4) = wnt l lv (i % 4) (36 + i / 4) x l.length → secAt (M.D d).now (36 + e) = wnt l lv (i % 4) (36 + i / 4) x l.length from fun x q => by rw [← hd, ← he]; exact q)
    rw [hd] at t1 t5 hd4 HR HT Hlen
    rw [he] at t2 t3 t4 he16 HR HT Hlen
    clear hKr hb HX hd he hmL hmB h32 hsec hn hdn hf hl4
    generalize secAt (M.D d).now (36 + e) = sx at *
    by_cases hib : i < back.length
    · have Hs := Lib.hid (Hse.out _ Hsec.out)
      rw [nOf_in hib] at Hs
      obtain ⟨bz, oz, rfl, hbz, hcz⟩ := Hb.out.2.2 (by omega)
      have hcl := hcz i hib
      have z64 := Hb.out.bd i
      have k2 : (i : Int) < (back.length : Int) := by omega
      clear hcz Hsec Hse
      generalize back.getD i 0 = z at hcl z64 Hs
      clear Hb
      have CS := Lib.hid (fun V => sector_any z V z64)
      go_wp2_with (go_at_call 18; (with_reducible refine (CS.out _).mono ?_); rintro e w1 ⟨g1, rfl, ho1, hb1⟩; have K1 := Lib.hid (HK1.out.below hb1); have R1 := Lib.hid ho1.rdS.1; have c1 := (K1.out.box2 HmB.out).2; clear ho1 hb1)
      refine lqD (w1 := w1) (b := b) (p := p) (c := c) (bc := bc) (lg := lg) (i := i) (s0 := sectorB z) (lv := lv) (A := A) (bA := (some ⟨bz, oz, none⟩)) (back := back) (l := l) _ _ _ _ _ _ _ _ _ _ _ _ _ _ _ _ _ _ _ _ _ _ _ _ _ _ _ _ _ _ _ _ _ _ _ _ _ _ _ _ _ _ _ _ _ _ _ _ _ _ _ _ _ _ _ _ _ _ _ _ _ _ _ _ _ _ _ _ _ _ _ _ _ _ _ _ _ _ _ _ _ _ _ _ _ _ _ _ _ _ _ _ _ _ _ _ _ _ _ _ _ _ _ _ _ _ _ _ _ _ _ _ _ _ _ _ _ _ _ _ _ _ _ _ _ _ _ _ _ _ _ _ _ _ _ _ _ _ _ _ _ _ _ _ _ _ _ _ _ _ (HL.out w1 K1.out) hlt (K1.out.rd (List.mem_cons_self ..)) H32.out hl3 ⟨Nat.zero_le _, by rw [wnt_zero]; exact R1.out, Below.refl _ _⟩ (fun v20 v113 v114 v115 v116 v117 v118 v119 v120 v121 v122 v123 v124 v125 v126 v127 v128 v129 v130 v131 v132 v133 v134 v135 v136 v137 v138 m X xc V hI hx => ?_)
      obtain ⟨_, hX1, hB4⟩ := hI
      subst hx
      have K4 := Lib.hid (K1.out.below hB4)
      rw [← Hs.out] at hX1
      have HX4 := Lib.hid hX1
      clear hX1 hB4 K1 R1 c1 HK1 CS
      have CR := bp_read w0 V b H M K4.out.kx.bp ((d : Nat) : Int) ((36 + e : Nat) : Int) ⟨by omega, by omega⟩ ⟨by omega, by omega⟩
      rw [HR.out.1, HR.out.2] at CR
      have CR := Lib.hid CR
      go_wp2_with (first
        | (go_at_call 21; refine CR.out.mono ?_; rintro e5 w5 ⟨v5, rfl, ho5, hb5⟩
           obtain ⟨A5, c5, rfl, hc5, hr5⟩ := ho5.rd
           rw [Hlen.out]
           have K5 := Lib.hid (K4.out.below hb5)
           have CE := Lib.hid (same_below A5 X 32 32 c5 xc _ _ _ w5 Hlen.out.symm Hlen.out.symm hr5 ((HX4.out.below hb5 (Nat.le_refl _)).more hb5.size))
           clear ho5 hb5 hc5 hr5)
        | (go_at_call 22; (with_reducible refine CE.out.mono ?_); rintro e6 w6 ⟨rfl, hb6⟩; rw [HT.out]; have K6 := Lib.hid (K5.out.below hb6); clear hb6))
      exact HK.out _ _ _ _ _ _ _ _ _ _ _ _ _ _ _ _ _ _ _ _ _ _ _ _ _ _ _ _ _ _ _ _ _ _ _ _ _ _ _ _ _ _ _ _ _ _ _ _ _ _ _ _ _ _ _ _ _ _ _ _ _ _ _ _ _ _ _ _ _ _ ⟨by omega, K6.out⟩ (by omega)
    · have k2 : ¬ (i : Int) < (back.length : Int) := by omega
      have Hs := Lib.hid (Hse.out _ Hsec.out)
      rw [nOf_out hib] at Hs
      clear Hb Hsec Hse
      have CS := Lib.hid (fun V => sector_any (i : Int) V (by omega))
      go_wp2_with (go_at_call 18; (with_reducible refine (CS.out _).mono ?_); rintro e w1 ⟨g1, rfl, ho1, hb1⟩; have K1 := Lib.hid (HK1.out.below hb1); have R1 := Lib.hid ho1.rdS.1; have c1 := (K1.out.box2 HmB.out).2; clear ho1 hb1)
      refine lqD (w1 := w1) (b := b) (p := p) (c := c) (bc := bc) (lg := lg) (i := i) (s0 := sectorB (i : Int)) (lv := lv) (A := A) (bA := bA) (back := back) (l := l) _ _ _ _ _ _ _ _ _ _ _ _ _ _ _ _ _ _ _ _ _ _ _ _ _ _ _ _ _ _ _ _ _ _ _ _ _ _ _ _ _ _ _ _ _ _ _ _ _ _ _ _ _ _ _ _ _ _ _ _ _ _ _ _ _ _ _ _ _ _ _ _ _ _ _ _ _ _ _ _ _ _ _ _ _ _ _ _ _ _ _ _ _ _ _ _ _ _ _ _ _ _ _ _ _ _ _ _ _ _ _ _ _ _ _ _ _ _ _ _ _ _ _ _ _ _ _ _ _ _ _ _ _ _ _ _ _ _ _ _ _ _ _ _ _ _ _ _ _ _ (HL.out w1 K1.out) hlt (K1.out.rd (List.mem_cons_self ..)) H32.out hl3 ⟨Nat.zero_le _, by rw [wnt_zero]; exact R1.out, Below.refl _ _⟩ (fun v20 v113 v114 v115 v116 v117 v118 v119 v120 v121 v122 v123 v124 v125 v126 v127 v128 v129 v130 v131 v132 v133 v134 v135 v136 v137 v138 m X xc V hI hx => ?_)
      obtain ⟨_, hX1, hB4⟩ := hI
      subst hx
      have K4 := Lib.hid (K1.out.below hB4)
      rw [← Hs.out] at hX1
      have HX4 := Lib.hid hX1
      clear hX1 hB4 K1 R1 c1 HK1 CS
      have CR := bp_read w0 V b H M K4.out.kx.bp ((d : Nat) : Int) ((36 + e : Nat) : Int) ⟨by omega, by omega⟩ ⟨by omega, by omega⟩
      rw [HR.out.1, HR.out.2] at CR
      have CR := Lib.hid CR
      go_wp2_with (first
        | (go_at_call 21; refine CR.out.mono ?_; rintro e5 w5 ⟨v5, rfl, ho5, hb5⟩
           obtain ⟨A5, c5, rfl, hc5, hr5⟩ := ho5.rd
           rw [Hlen.out]
           have K5 := Lib.hid (K4.out.below hb5)
           have CE := Lib.hid (same_below A5 X 32 32 c5 xc _ _ _ w5 Hlen.out.symm Hlen.out.symm hr5 ((HX4.out.below hb5 (Nat.le_refl _)).more hb5.size))
           clear ho5 hb5 hc5 hr5)
        | (go_at_call 22; (with_reducible refine CE.out.mono ?_); rintro e6 w6 ⟨rfl, hb6⟩; rw [HT.out]; have K6 := Lib.hid (K5.out.below hb6); clear hb6))
      exact HK.out _ _ _ _ _ _ _ _ _ _ _ _ _ _ _ _ _ _ _ _ _ _ _ _ _ _ _ _ _ _ _ _ _ _ _ _ _ _ _ _ _ _ _ _ _ _ _ _ _ _ _ _ _ _ _ _ _ _ _ _ _ _ _ _ _ _ _ _ _ _ ⟨by omega, K6.out⟩ (by omega)
  · have i1 : ¬ (i : Int) < 64 := by omega
    have hde : i = 64 := by omega
    have Hde := Lib.hid hde
    clear HK hde hKr
    go_wp2_with fail
    exact HX.out _ _ _ _ _ _ _ _ _ _ _ _ _ _ _ _ _ _ _ _ _ _ _ _ _ _ _ _ _ _ _ _ _ _ _ _ _ _ _ _ _ _ _ _ _ _ _ _ _ _ _ _ _ _ _ _ _ _ _ _ _ _ _ _ _ _ _ _ _ Hde.out
set_option maxRecDepth 100000 in
set_option maxHeartbeats 3200000 in
theorem lqC {w0 : World} {b p c bc lg : Nat} {s : Int} {lv : List Bool} {A bA : Option Addr} {back : List Int} {l : List It} {H : BH} {M : Bch} {KK : List (Nat × Obj)}  {w : World} (u0 u1 u2 u4 u5 u6 u7 u8 u10 u12 u13 u14 u17 u18 u19 u20 u21 u22 u23 u24 u25 u26 u27 u28 u29 u30 u31 u32 u33 u34 u35 u36 u37 u38 u39 u40 u41 u42 u43 u44 u45 u46 u47 u48 u49 u50 u51 u52 u53 u54 u55 u56 u57 u58 u59 u60 u61 u62 u63 u64 u65 u66 u67 u68 u69 u70 u71 u72 u73 u74 u75 u76 u77 u78 u79 u80 u81 u82 u83 u84 u85 u86 u87 u88 u89 u90 u91 u92 u93 u94 u95 u96 u97 u98 u99 u100 u101 u102 u103 u104 u105 u106 u107 u108 u109 u110 u111 u112 u113 u114 u115 u116 u117 u118 u119 u120 u121 u122 u123 u124 u125 u126 u127 u128 u129 u130 u131 u132 u133 u134 u135 u136 u137 u138 u139 u140 u141 u142 u143 u144 u145 u146 u147 u148 u149 u150 u151 u152 u153 u154 u155 u156 u157 : Value) (Q : Exit → Act → World → Prop) (hb : RdZ w0 w0.heap.size bA back) (hmL : (lg, Obj.cells ((lv.map Value.bool).toArray) 4 (0, 0)) ∈ KK) (hmB : (p, Obj.cells #[.int .i64 s, .slice A l.length c] 29 (0, 0)) ∈ KK) (hl4 : lv.length = 4) (hn : M.n = 4) (hdn : M.down = false) (hf : ∀ j, j < 4 → (M.D j).f = false) (h32 : ∀ x ∈ l, x.b.length = 32) (hl3 : l.length ≤ 3) (hsec : ∀ i, i < 64 → secAt (M.D (i % 4)).now (36 + i / 4) = wnt l lv (i % 4) (36 + i / 4) (sectorB (nOf back i)) l.length) (hI : (0 ≤ 64 ∧ KR w0 w b H M KK [(A, l)] (fun _ => False)))
    (hX : ∀ (v8 v17 v18 v20 v21 v22 v94 v95 v96 v97 v98 v99 v100 v101 v102 v103 v104 v105 v106 v107 v108 v109 v110 v111 v112 v113 v114 v115 v116 v117 v118 v119 v120 v121 v122 v123 v124 v125 v126 v127 v128 v129 v130 v131 v132 v133 v134 v135 v136 v137 v138 v139 v140 v141 v142 v143 v144 v145 v146 v147 v148 v149 v150 v151 v152 v153 v154 v155 v156 : Value) (i : Nat) (V : World), (i ≤ 64 ∧ KR w0 V b H M KK [(A, l)] (fun _ => False)) → (i = 64) → Q (.exit 4) ⟨List.toArray (u0 :: u1 :: u2 :: (.slice bA back.length bc) :: u4 :: u5 :: u6 :: u7 :: v8 :: (.pointer (some ⟨b, 0, none⟩)) :: u10 :: (.pointer (some ⟨p, 0, none⟩)) :: u12 :: u13 :: u14 :: (.slice (some ⟨lg, 0, none⟩) 4 4) :: (.int .i64 ((i : Nat) : Int)) :: v17 :: v18 :: u19 :: v20 :: v21 :: v22 :: u23 :: u24 :: u25 :: u26 :: u27 :: u28 :: u29 :: u30 :: u31 :: u32 :: u33 :: u34 :: u35 :: u36 :: u37 :: u38 :: u39 :: u40 :: u41 :: u42 :: u43 :: u44 :: u45 :: u46 :: u47 :: u48 :: u49 :: u50 :: u51 :: u52 :: u53 :: u54 :: u55 :: u56 :: u57 :: u58 :: u59 :: u60 :: u61 :: u62 :: u63 :: u64 :: u65 :: u66 :: u67 :: u68 :: u69 :: u70 :: u71 :: u72 :: u73 :: u74 :: u75 :: u76 :: u77 :: u78 :: u79 :: u80 :: u81 :: u82 :: u83 :: u84 :: u85 :: u86 :: u87 :: u88 :: u89 :: u90 :: u91 :: u92 :: u93 :: v94 :: v95 :: v96 :: v97 :: v98 :: v99 :: v100 :: v101 :: v102 :: v103 :: v104 :: v105 :: v106 :: v107 :: v108 :: v109 :: v110 :: v111 :: v112 :: v113 :: v114 :: v115 :: v116 :: v117 :: v118 :: v119 :: v120 :: v121 :: v122 :: v123 :: v124 :: v125 :: v126 :: v127 :: v128 :: v129 :: v130 :: v131 :: v132 :: v133 :: v134 :: v135 :: v136 :: v137 :: v138 :: v139 :: v140 :: v141 :: v142 :: v143 :: v144 :: v145 :: v146 :: v147 :: v148 :: v149 :: v150 :: v151 :: v152 :: v153 :: v154 :: v155 :: v156 :: u157 :: []), []⟩ V) :
    Code.wp Tryd.prog (.loop (sub [1, 1, 1, 1, 1, 1, 1, 1, 1, 0, 1, 0, 0] codeLQ)) Q ⟨List.toArray (u0 :: u1 :: u2 :: (.slice bA back.length bc) :: u4 :: u5 :: u6 :: u7 :: u8 :: (.pointer (some ⟨b, 0, none⟩)) :: u10 :: (.pointer (some ⟨p, 0, none⟩)) :: u12 :: u13 :: u14 :: (.slice (some ⟨lg, 0, none⟩) 4 4) :: (.int .i64 ((0 : Nat) : Int)) :: u17 :: u18 :: u19 :: u20 :: u21 :: u22 :: u23 :: u24 :: u25 :: u26 :: u27 :: u28 :: u29 :: u30 :: u31 :: u32 :: u33 :: u34 :: u35 :: u36 :: u37 :: u38 :: u39 :: u40 :: u41 :: u42 :: u43 :: u44 :: u45 :: u46 :: u47 :: u48 :: u49 :: u50 :: u51 :: u52 :: u53 :: u54 :: u55 :: u56 :: u57 :: u58 :: u59 :: u60 :: u61 :: u62 :: u63 :: u64 :: u65 :: u66 :: u67 :: u68 :: u69 :: u70 :: u71 :: u72 :: u73 :: u74 :: u75 :: u76 :: u77 :: u78 :: u79 :: u80 :: u81 :: u82 :: u83 :: u84 :: u85 :: u86 :: u87 :: u88 :: u89 :: u90 :: u91 :: u92 :: u93 :: u94 :: u95 :: u96 :: u97 :: u98 :: u99 :: u100 :: u101 :: u102 :: u103 :: u104 :: u105 :: u106 :: u107 :: u108 :: u109 :: u110 :: u111 :: u112 :: u113 :: u114 :: u115 :: u116 :: u117 :: u118 :: u119 :: u120 :: u121 :: u122 :: u123 :: u124 :: u125 :: u126 :: u127 :: u128 :: u129 :: u130 :: u131 :: u132 :: u133 :: u134 :: u135 :: u136 :: u137 :: u138 :: u139 :: u140 :: u141 :: u142 :: u143 :: u144 :: u145 :: u146 :: u147 :: u148 :: u149 :: u150 :: u151 :: u152 :: u153 :: u154 :: u155 :: u156 :: u157 :: []), []⟩ w := by
  refine wp_loop_ghost (fun gk a V => ∀ C : Prop, (∀ (u8 u17 u18 u20 u21 u22 u94 u95 u96 u97 u98 u99 u100 u101 u102 u103 u104 u105 u106 u107 u108 u109 u110 u111 u112 u113 u114 u115 u116 u117 u118 u119 u120 u121 u122 u123 u124 u125 u126 u127 u128 u129 u130 u131 u132 u133 u134 u135 u136 u137 u138 u139 u140 u141 u142 u143 u144 u145 u146 u147 u148 u149 u150 u151 u152 u153 u154 u155 u156 : Value) (i : Nat), gk = 64 - i → (i ≤ 64 ∧ KR w0 V b H M KK [(A, l)] (fun _ => False)) → a = ⟨List.toArray (u0 :: u1 :: u2 :: (.slice bA back.length bc) :: u4 :: u5 :: u6 :: u7 :: u8 :: (.pointer (some ⟨b, 0, none⟩)) :: u10 :: (.pointer (some ⟨p, 0, none⟩)) :: u12 :: u13 :: u14 :: (.slice (some ⟨lg, 0, none⟩) 4 4) :: (.int .i64 ((i : Nat) : Int)) :: u17 :: u18 :: u19 :: u20 :: u21 :: u22 :: u23 :: u24 :: u25 :: u26 :: u27 :: u28 :: u29 :: u30 :: u31 :: u32 :: u33 :: u34 :: u35 :: u36 :: u37 :: u38 :: u39 :: u40 :: u41 :: u42 :: u43 :: u44 :: u45 :: u46 :: u47 :: u48 :: u49 :: u50 :: u51 :: u52 :: u53 :: u54 :: u55 :: u56 :: u57 :: u58 :: u59 :: u60 :: u61 :: u62 :: u63 :: u64 :: u65 :: u66 :: u67 :: u68 :: u69 :: u70 :: u71 :: u72 :: u73 :: u74 :: u75 :: u76 :: u77 :: u78 :: u79 :: u80 :: u81 :: u82 :: u83 :: u84 :: u85 :: u86 :: u87 :: u88 :: u89 :: u90 :: u91 :: u92 :: u93 :: u94 :: u95 :: u96 :: u97 :: u98 :: u99 :: u100 :: u101 :: u102 :: u103 :: u104 :: u105 :: u106 :: u107 :: u108 :: u109 :: u110 :: u111 :: u112 :: u113 :: u114 :: u115 :: u116 :: u117 :: u118 :: u119 :: u120 :: u121 :: u122 :: u123 :: u124 :: u125 :: u126 :: u127 :: u128 :: u129 :: u130 :: u131 :: u132 :: u133 :: u134 :: u135 :: u136 :: u137 :: u138 :: u139 :: u140 :: u141 :: u142 :: u143 :: u144 :: u145 :: u146 :: u147 :: u148 :: u149 :: u150 :: u151 :: u152 :: u153 :: u154 :: u155 :: u156 :: u157 :: []), []⟩ → C) → C) (64 - 0) ?_ ?_
  · intro C hC
    exact hC _ _ _ _ _ _ _ _ _ _ _ _ _ _ _ _ _ _ _ _ _ _ _ _ _ _ _ _ _ _ _ _ _ _ _ _ _ _ _ _ _ _ _ _ _ _ _ _ _ _ _ _ _ _ _ _ _ _ _ _ _ _ _ _ _ _ _ _ _ (0) rfl hI rfl
  · intro gk a V hI'
    refine hI' _ ?_
    intro u8 u17 u18 u20 u21 u22 u94 u95 u96 u97 u98 u99 u100 u101 u102 u103 u104 u105 u106 u107 u108 u109 u110 u111 u112 u113 u114 u115 u116 u117 u118 u119 u120 u121 u122 u123 u124 u125 u126 u127 u128 u129 u130 u131 u132 u133 u134 u135 u136 u137 u138 u139 u140 u141 u142 u143 u144 u145 u146 u147 u148 u149 u150 u151 u152 u153 u154 u155 u156 i hk hinv ha
    subst ha
    subst hk
    refine lqCb _ _ _ _ _ _ _ _ _ _ _ _ _ _ _ _ _ _ _ _ _ _ _ _ _ _ _ _ _ _ _ _ _ _ _ _ _ _ _ _ _ _ _ _ _ _ _ _ _ _ _ _ _ _ _ _ _ _ _ _ _ _ _ _ _ _ _ _ _ _ _ _ _ _ _ _ _ _ _ _ _ _ _ _ _ _ _ _ _ _ _ _ _ _ _ _ _ _ _ _ _ _ _ _ _ _ _ _ _ _ _ _ _ _ _ _ _ _ _ _ _ _ _ _ _ _ _ _ _ _ _ _ _ _ _ _ _ _ _ _ _ _ _ _ _ _ _ _ _ _ _ _ _ _ _ hb hmL hmB hl4 hn hdn hf h32 hl3 hsec hinv (fun v8 v17 v18 v20 v21 v22 v94 v95 v96 v97 v98 v99 v100 v101 v102 v103 v104 v105 v106 v107 v108 v109 v110 v111 v112 v113 v114 v115 v116 v117 v118 v119 v120 v121 v122 v123 v124 v125 v126 v127 v128 v129 v130 v131 v132 v133 v134 v135 v136 v137 v138 v139 v140 v141 v142 v143 v144 v145 v146 v147 v148 v149 v150 v151 v152 v153 v154 v155 v156  V2 h2 hm => ?_) (fun v8 v17 v18 v20 v21 v22 v94 v95 v96 v97 v98 v99 v100 v101 v102 v103 v104 v105 v106 v107 v108 v109 v110 v111 v112 v113 v114 v115 v116 v117 v118 v119 v120 v121 v122 v123 v124 v125 v126 v127 v128 v129 v130 v131 v132 v133 v134 v135 v136 v137 v138 v139 v140 v141 v142 v143 v144 v145 v146 v147 v148 v149 v150 v151 v152 v153 v154 v155 v156 hx => hX v8 v17 v18 v20 v21 v22 v94 v95 v96 v97 v98 v99 v100 v101 v102 v103 v104 v105 v106 v107 v108 v109 v110 v111 v112 v113 v114 v115 v116 v117 v118 v119 v120 v121 v122 v123 v124 v125 v126 v127 v128 v129 v130 v131 v132 v133 v134 v135 v136 v137 v138 v139 v140 v141 v142 v143 v144 v145 v146 v147 v148 v149 v150 v151 v152 v153 v154 v155 v156 i V hinv hx)
    refine ⟨_, hm, fun C hC => ?_⟩
    exact hC v8 v17 v18 v20 v21 v22 v94 v95 v96 v97 v98 v99 v100 v101 v102 v103 v104 v105 v106 v107 v108 v109 v110 v111 v112 v113 v114 v115 v116 v117 v118 v119 v120 v121 v122 v123 v124 v125 v126 v127 v128 v129 v130 v131 v132 v133 v134 v135 v136 v137 v138 v139 v140 v141 v142 v143 v144 v145 v146 v147 v148 v149 v150 v151 v152 v153 v154 v155 v156 ((i + 1)) rfl h2 rfl
end Go.Proofs.YtkbhnbkjpnigkaaDoor
