/- Texts put together: UpdateRowsLaw. -/
import Derived.Test.YtenkkdnepmoihaaGreatDoorUraz
section
set_option linter.unusedVariables false
set_option linter.unusedSimpArgs false
namespace Go.Proofs.YtenkkdnepmoihaaGreatDoor
open Go.RowKit

theorem mem_two1 {α : Type} {x y : α} {L : List α} : ∀ p ∈ x :: y :: L, p ∈ L ++ [y, x] := fun p h => by
  rcases List.mem_cons.1 h with rfl | h
  · simp
  · rcases List.mem_cons.1 h with rfl | h
    · simp
    · exact List.mem_append.2 (.inl h)
theorem mem_two2 {α : Type} {x y : α} {L : List α} : ∀ p ∈ [y, x], p ∈ x :: y :: L := fun p h => by
  rcases List.mem_cons.1 h with rfl | h
  · simp
  · rcases List.mem_cons.1 h with rfl | h
    · simp
    · cases h
theorem tdiv3_bd {z : Int} (h : -9223372036854775808 ≤ z ∧ z ≤ 9223372036854775807) : -9223372036854775808 ≤ z.tdiv 3 ∧ z.tdiv 3 ≤ 9223372036854775807 := by
  rcases Int.le_total 0 z with h0 | h0
  · rw [Int.tdiv_eq_ediv_of_nonneg h0]; omega
  · have e : z.tdiv 3 = -((-z) / 3) := by
      rw [← Int.tdiv_eq_ediv_of_nonneg (by omega), Int.neg_tdiv, Int.neg_neg]
    rw [e]; omega
set_option maxRecDepth 100000 in
set_option maxHeartbeats 3200000 in
theorem urCb {W0 : World} {n l c r : Int} {D F W b gb gl cm : Nat} {B : Option Addr} {ats : List Int} {lv : List Bool} {i : Nat} {H : BH} {N : Bch} {ds : Nat → List (List UInt8)} {w : World} (u0 u1 u3 u4 u5 u6 u11 u12 u13 u14 u15 u16 u17 u18 u19 u20 u21 u22 u23 u24 u25 u26 u27 u28 u29 u30 u31 u32 u33 u34 u35 u36 u37 u38 u39 u40 u41 u42 u43 u44 u45 u46 u47 u48 u49 u50 u51 u52 u53 u54 u55 u56 u57 u58 u59 u60 u61 u62 u63 u64 u65 u66 u67 u68 u69 u70 u71 u72 u73 u74 u75 u76 u77 u78 u79 u80 u81 u82 u83 u84 u85 u86 u87 u88 u89 u90 u91 u92 u93 u94 u95 u96 u97 u98 u99 u100 u101 u102 u103 u104 u105 u106 u107 u108 u109 u110 u111 u112 u113 u114 u115 u116 u117 u118 u119 u120 u121 u122 u123 u124 u125 u126 u127 : Value) (K : Act → World → Prop) (Q0 : Exit → Act → World → Prop) (hu : UpdC) (ht : TabOk W0) (gr : Gr n l c r D F W) (hcm : ats.length ≤ cm) (hzm : RdZ W0 W0.heap.size B ats) (hll : lv.length = D) (hlive : ∀ i, i < D → lv.getD i false = true) (hI : (i ≤ 6 ∧ KS W0 w b H N [(gl, Obj.cells (lv.map Value.bool).toArray 4 (0, 0)), (gb, Obj.cells #[.int .i64 l, .int .i64 (D : Int), .int .i64 c] 24 (0, 0))] [] [] ∧ Arr N D lv l c W ds ∧ Up N D ∧ N.done ≤ 35 * i))
    (hK : ∀ (v6 v11 v12 v13 v14 v15 v16 v17 v18 v19 v20 v21 v22 v35 v36 v37 v38 v39 v40 v41 v42 v43 v44 v45 v46 v47 v48 v49 v50 v51 v52 v53 v54 v55 v56 v57 v58 v59 v60 v61 v62 v63 v64 v65 v66 v67 v68 v69 v70 v71 v72 v73 v74 v75 v76 v77 v78 v79 v80 v81 v82 v83 v84 v85 v86 v87 v88 v89 v90 v91 v92 v93 v94 v95 v96 v97 v98 v99 v100 v101 v102 v103 v104 v105 v106 v107 v108 v109 v110 v111 v112 v113 v114 v115 v116 v117 v118 v119 v120 v121 v122 v123 v124 v125 v126 : Value) (H2 : BH) (N2 : Bch) (ds2 : Nat → List (List UInt8)) (V : World), ((i + 1) ≤ 6 ∧ KS W0 V b H2 N2 [(gl, Obj.cells (lv.map Value.bool).toArray 4 (0, 0)), (gb, Obj.cells #[.int .i64 l, .int .i64 (D : Int), .int .i64 c] 24 (0, 0))] [] [] ∧ Arr N2 D lv l c W ds2 ∧ Up N2 D ∧ N2.done ≤ 35 * (i + 1)) → 6 - (i + 1) < 6 - i → K ⟨List.toArray (u0 :: u1 :: (.slice B ats.length cm) :: u3 :: u4 :: u5 :: v6 :: (.pointer (some ⟨gb, 0, none⟩)) :: (.pointer (some ⟨b, 0, none⟩)) :: (.slice (some ⟨gl, 0, none⟩) D D) :: (.int .i64 (((i + 1) : Nat) : Int)) :: v11 :: v12 :: v13 :: v14 :: v15 :: v16 :: v17 :: v18 :: v19 :: v20 :: v21 :: v22 :: u23 :: u24 :: u25 :: u26 :: u27 :: u28 :: u29 :: u30 :: u31 :: u32 :: u33 :: u34 :: v35 :: v36 :: v37 :: v38 :: v39 :: v40 :: v41 :: v42 :: v43 :: v44 :: v45 :: v46 :: v47 :: v48 :: v49 :: v50 :: v51 :: v52 :: v53 :: v54 :: v55 :: v56 :: v57 :: v58 :: v59 :: v60 :: v61 :: v62 :: v63 :: v64 :: v65 :: v66 :: v67 :: v68 :: v69 :: v70 :: v71 :: v72 :: v73 :: v74 :: v75 :: v76 :: v77 :: v78 :: v79 :: v80 :: v81 :: v82 :: v83 :: v84 :: v85 :: v86 :: v87 :: v88 :: v89 :: v90 :: v91 :: v92 :: v93 :: v94 :: v95 :: v96 :: v97 :: v98 :: v99 :: v100 :: v101 :: v102 :: v103 :: v104 :: v105 :: v106 :: v107 :: v108 :: v109 :: v110 :: v111 :: v112 :: v113 :: v114 :: v115 :: v116 :: v117 :: v118 :: v119 :: v120 :: v121 :: v122 :: v123 :: v124 :: v125 :: v126 :: u127 :: []), []⟩ V)
    (hX : ∀ (v6 v11 v12 v13 v14 v15 v16 v17 v18 v19 v20 v21 v22 v35 v36 v37 v38 v39 v40 v41 v42 v43 v44 v45 v46 v47 v48 v49 v50 v51 v52 v53 v54 v55 v56 v57 v58 v59 v60 v61 v62 v63 v64 v65 v66 v67 v68 v69 v70 v71 v72 v73 v74 v75 v76 v77 v78 v79 v80 v81 v82 v83 v84 v85 v86 v87 v88 v89 v90 v91 v92 v93 v94 v95 v96 v97 v98 v99 v100 v101 v102 v103 v104 v105 v106 v107 v108 v109 v110 v111 v112 v113 v114 v115 v116 v117 v118 v119 v120 v121 v122 v123 v124 v125 v126 : Value), (True) → Q0 (.exit 0) ⟨List.toArray (u0 :: u1 :: (.slice B ats.length cm) :: u3 :: u4 :: u5 :: v6 :: (.pointer (some ⟨gb, 0, none⟩)) :: (.pointer (some ⟨b, 0, none⟩)) :: (.slice (some ⟨gl, 0, none⟩) D D) :: (.int .i64 ((i : Nat) : Int)) :: v11 :: v12 :: v13 :: v14 :: v15 :: v16 :: v17 :: v18 :: v19 :: v20 :: v21 :: v22 :: u23 :: u24 :: u25 :: u26 :: u27 :: u28 :: u29 :: u30 :: u31 :: u32 :: u33 :: u34 :: v35 :: v36 :: v37 :: v38 :: v39 :: v40 :: v41 :: v42 :: v43 :: v44 :: v45 :: v46 :: v47 :: v48 :: v49 :: v50 :: v51 :: v52 :: v53 :: v54 :: v55 :: v56 :: v57 :: v58 :: v59 :: v60 :: v61 :: v62 :: v63 :: v64 :: v65 :: v66 :: v67 :: v68 :: v69 :: v70 :: v71 :: v72 :: v73 :: v74 :: v75 :: v76 :: v77 :: v78 :: v79 :: v80 :: v81 :: v82 :: v83 :: v84 :: v85 :: v86 :: v87 :: v88 :: v89 :: v90 :: v91 :: v92 :: v93 :: v94 :: v95 :: v96 :: v97 :: v98 :: v99 :: v100 :: v101 :: v102 :: v103 :: v104 :: v105 :: v106 :: v107 :: v108 :: v109 :: v110 :: v111 :: v112 :: v113 :: v114 :: v115 :: v116 :: v117 :: v118 :: v119 :: v120 :: v121 :: v122 :: v123 :: v124 :: v125 :: v126 :: u127 :: []), []⟩ w) :
    Code.wp Tryz.prog (sub [1, 1, 1, 1, 1, 0, 1, 0, 0] codeUR) (Exit.then K Q0) ⟨List.toArray (u0 :: u1 :: (.slice B ats.length cm) :: u3 :: u4 :: u5 :: u6 :: (.pointer (some ⟨gb, 0, none⟩)) :: (.pointer (some ⟨b, 0, none⟩)) :: (.slice (some ⟨gl, 0, none⟩) D D) :: (.int .i64 ((i : Nat) : Int)) :: u11 :: u12 :: u13 :: u14 :: u15 :: u16 :: u17 :: u18 :: u19 :: u20 :: u21 :: u22 :: u23 :: u24 :: u25 :: u26 :: u27 :: u28 :: u29 :: u30 :: u31 :: u32 :: u33 :: u34 :: u35 :: u36 :: u37 :: u38 :: u39 :: u40 :: u41 :: u42 :: u43 :: u44 :: u45 :: u46 :: u47 :: u48 :: u49 :: u50 :: u51 :: u52 :: u53 :: u54 :: u55 :: u56 :: u57 :: u58 :: u59 :: u60 :: u61 :: u62 :: u63 :: u64 :: u65 :: u66 :: u67 :: u68 :: u69 :: u70 :: u71 :: u72 :: u73 :: u74 :: u75 :: u76 :: u77 :: u78 :: u79 :: u80 :: u81 :: u82 :: u83 :: u84 :: u85 :: u86 :: u87 :: u88 :: u89 :: u90 :: u91 :: u92 :: u93 :: u94 :: u95 :: u96 :: u97 :: u98 :: u99 :: u100 :: u101 :: u102 :: u103 :: u104 :: u105 :: u106 :: u107 :: u108 :: u109 :: u110 :: u111 :: u112 :: u113 :: u114 :: u115 :: u116 :: u117 :: u118 :: u119 :: u120 :: u121 :: u122 :: u123 :: u124 :: u125 :: u126 :: u127 :: []), []⟩ w := by
  have HK := Lib.hid hK
  have HX := Lib.hid hX
  clear hK hX
  conv => arg 2; whnf
  obtain ⟨hi6, hk, ha, hup, hdn⟩ := hI
  have hd8 := gr.d8
  have hd3 := gr.d3
  have hw7 := gr.w7
  have hlm := hzm.1
  by_cases hlt : i < ats.length ∧ i < 6
  · obtain ⟨hlt, h6⟩ := hlt
    have i0 : (0 : Int) ≤ (i : Int) := by omega
    have i1 : (i : Int) < (ats.length : Int) := by omega
    have i6 : (i : Int) < 6 := by omega
    have hbd := hzm.bd i
    obtain ⟨bB, off, rfl, hbb, hc⟩ := hzm.2.2 (by omega)
    have hcz := hc i hlt
    generalize ats.getD i 0 = z at hbd hcz
    clear hc
    have hg := (plOk_yes gr.ok).1
    have hcap : gCap l (D : Int) c = (W : Int) * 16 := by rw [gCap_yes hg, ← gWid_yes hg, gr.wd]
    have w1 := gr.w1
    have CC := Lib.hid (fun V => refCapacity_any l (D : Int) c V gr.l64 gr.d64 gr.c64)
    have CW := fun V => within_any z (gCap l (D : Int) c) V hbd (by omega)
    have hab := withinI_bd z (gCap l (D : Int) c) (by omega)
    obtain ⟨ρ, k, hρ, hkW, hat, hR, hDk⟩ := num_of gr hab.1 hab.2
    simp only [hat] at CW
    replace CW := Lib.hid CW
    obtain ⟨np1, _, _, _⟩ := num_place (gr.at hρ) hkW
    rw [hat] at hR hDk hab
    have hnb := (plOfOk_yes np1)
    rw [hcap] at hnb
    have CO := fun V => refOf_any l (D : Int) c (plN l (D : Int) c (ρ : Int) (k : Int)) V gr.l64 gr.d64 gr.c64 (by omega)
    simp only [hR, np1] at CO
    replace CO := Lib.hid CO
    have hsv : ∀ i, i < D → srvD N lv i = true := fun i hi => srvD_mk (by rw [hup.n]; exact hi) (hlive i hi) (hup.f i hi)
    have hcnt : ((cntB D (fun i => !srvD N lv i) : Nat) : Int) ≤ l - 4 := by
      rw [cntB_none fun i hi => by rw [hsv i hi]; rfl]
      have := gr.lv; omega
    have htb := tdiv3_bd hbd
    have Hew := Lib.hid (show IntKind.i64.wrap (z.tdiv 3) = z.tdiv 3 from by rw [IntKind.wrap_i64]; omega)
    have Hei := Lib.hid (show IntKind.i64.wrap ((i : Int) + 1) = (i : Int) + 1 from by rw [IntKind.wrap_i64]; omega)
    have hx := sectorB_len (z.tdiv 3)
    have CSe := Lib.hid (fun V => sector_any (z.tdiv 3) V htb)
    generalize sectorB (z.tdiv 3) = x at hx CSe
    have fok := fun e => ha.fok gr hx (n := plN l (D : Int) c (ρ : Int) (k : Int)) e
    obtain ⟨e0, a2, its, dg, _⟩ := ha.do_ (s := (i : Int) + 1) gr hρ hkW hx hcnt ⟨by omega, by omega⟩
    have L1 := gr.l64
    have L2 := gr.d64
    have L3 := gr.c64
    have CD := fun (V : World) (LW : List (Nat × Obj)) (gx : Nat) (k' : KS W0 V b H N (LW ++ [(gl, Obj.cells (lv.map Value.bool).toArray 4 (0, 0)), (gb, Obj.cells #[.int .i64 l, .int .i64 (D : Int), .int .i64 c] 24 (0, 0))]) [] [(some ⟨gx, 0, none⟩, x)]) => ks_do k' hu ht lv (some ⟨gl, 0, none⟩) D D hll.symm (k'.lv (g := gl) (t := 4) (f := (0, 0)) (lv := lv) (by simp) rfl (by omega)) l (D : Int) c (plN l (D : Int) c (ρ : Int) (k : Int)) L1 L2 L3 (by omega) (some ⟨gx, 0, none⟩) 32 32 x hx (Nat.le_refl _) (k'.sl (A := some ⟨gx, 0, none⟩) (bs := x) (by simp)) ((i : Int) + 1) (by omega) fok (fun j hj => by rw [ha.st.good.ps j hj]; exact Nat.zero_le _) (by omega)
    have hsm : ∀ s, s < 16 → s ≠ ρ → ∀ j, j < D → secAt (N.D j).now (36 + s) = (flG l c D (dsSet ds ρ k x) s).getD j [] := fun s hs hne j hj => by
      rw [ha.st.at' j hj s hs (hsv j hj)]
      unfold flG dsSet; rw [if_neg hne]
    rw [e0] at CD
    generalize doS N lv l (D : Int) c (plN l (D : Int) c (ρ : Int) (k : Int)) x ((i : Int) + 1) = q at CD a2 dg
    obtain ⟨_, M⟩ := q
    dsimp only at CD a2 dg
    replace CD := Lib.hid CD
    have um : Up M D := ⟨a2.st.n, a2.st.good.dn, fun j hj => (dg.f j hj).trans (hup.f j hj)⟩
    have hrow : ∀ s, s < 16 → ∀ j, j < D → secAt (M.D j).now (36 + s) = (flG l c D (dsSet ds ρ k x) s).getD j [] := fun s hs j hj => a2.st.at' j hj s hs ((dg.srv hup.n hj).trans (hsv j hj))
    have hdn2 : M.done ≤ 35 * (i + 1) := by have := dg.done; omega
    have HSm := Lib.hid (show ∀ s, s < 16 → s ≠ ρ → ∀ j, j < D → secAt (N.D j).now (36 + s) = secAt (M.D j).now (36 + s) from fun s hs hne j hj => (hsm s hs hne j hj).trans (hrow s hs j hj).symm)
    have HRow := Lib.hid hrow
    have A2 := Lib.hid a2
    have UM := Lib.hid um
    have UN := Lib.hid hup
    have Gr' := Lib.hid gr
    have CCl := Lib.hid (ks_clone hk (fun j hj => by rw [ha.st.good.ps j hj]; exact Nat.zero_le _))
    obtain ⟨g1, g2, g3⟩ := hk.gat (g := gb) (l := l) (d := (D : Int)) (c := c) (t := 24) (f := (0, 0)) (by simp)
    generalize plN l (D : Int) c (ρ : Int) (k : Int) = pn at CW CO CD
    clear hat hR hDk np1 hnb hcnt hsv fok e0 dg hsm hrow a2 um hk ha hup HX hcap hab gr hzm hlive hg htb hbd hx
    go_wp2_with fail
    (with_reducible refine CCl.out.mono ?_); rintro e w1 ⟨bw, H2, LW, rfl, k1, hb1, hVL⟩
    have Kw := Lib.hid k1
    have HVL := Lib.hid hVL
    obtain ⟨g4, g5, g6⟩ := k1.gat (g := gb) (l := l) (d := (D : Int)) (c := c) (t := 24) (f := (0, 0)) (by simp)
    clear k1 hb1 hVL CCl g1 g2 g3
    go_wp2_with fail
    refine wp_region_noPanic (region_ord 8 [] (fun V => GAt V gb l (D : Int) c ∧ Below W0.heap.size W0 V) (by kernel_rfl) (by kernel_rfl) (fun _ _ _ _ _ h => h) fun R => ?_)
    change anyI _ _ _ _ _ _ 8 _ _ w1.drew
    have HS0 := Lib.hid (show (fun V => GAt V gb l (D : Int) c ∧ Below W0.heap.size W0 V) w1.drew from ⟨(Kw.out.below (Below.refl _ w1).drew).gat (g := gb) (l := l) (d := (D : Int)) (c := c) (t := 24) (f := (0, 0)) (by simp), (Kw.out.below (Below.refl _ w1).drew).bp.bel⟩)
    have K0 := Lib.hid (Kw.out.below (Below.refl _ w1).drew)
    obtain ⟨V0, hV0⟩ : ∃ V, w1.drew = V := ⟨_, rfl⟩
    rw [hV0] at HS0 K0 ⊢
    clear hV0
    refine' anyI_take R 0 rfl (v := ?_) (by kernel_rfl) (by rfl) (fun V hV => ?hy) HS0.out ?_
    case hy => ((try dsimp only at hV);  obtain ⟨⟨y0, y1, y2⟩, y9⟩ := hV; have y3 := (y9.cell (p := ⟨bB, off + i, none⟩) hbb).trans hcz; go_simp; try with_reducible rfl)
    try simp only [Act.put, List.getElem_toArray, List.getElem_cons_succ, List.getElem_cons_zero, List.setIfInBounds_toArray, List.set_cons_zero, List.set_cons_succ]
    refine' anyI_take R 1 rfl (v := ?_) (by kernel_rfl) (by rfl) (fun V hV => ?hy) HS0.out ?_
    case hy => ((try dsimp only at hV);  obtain ⟨⟨y0, y1, y2⟩, y9⟩ := hV; have y3 := (y9.cell (p := ⟨bB, off + i, none⟩) hbb).trans hcz; go_simp; try with_reducible rfl)
    try simp only [Act.put, List.getElem_toArray, List.getElem_cons_succ, List.getElem_cons_zero, List.setIfInBounds_toArray, List.set_cons_zero, List.set_cons_succ]
    refine' anyI_take R 2 rfl (v := ?_) (by kernel_rfl) (by rfl) (fun V hV => ?hy) HS0.out ?_
    case hy => ((try dsimp only at hV);  obtain ⟨⟨y0, y1, y2⟩, y9⟩ := hV; have y3 := (y9.cell (p := ⟨bB, off + i, none⟩) hbb).trans hcz; go_simp; try with_reducible rfl)
    try simp only [Act.put, List.getElem_toArray, List.getElem_cons_succ, List.getElem_cons_zero, List.setIfInBounds_toArray, List.set_cons_zero, List.set_cons_succ]
    refine' anyI_take R 3 rfl (v := ?_) (by kernel_rfl) (by rfl) (fun V hV => ?hy) HS0.out ?_
    case hy => ((try dsimp only at hV);  obtain ⟨⟨y0, y1, y2⟩, y9⟩ := hV; have y3 := (y9.cell (p := ⟨bB, off + i, none⟩) hbb).trans hcz; go_simp; try with_reducible rfl)
    try simp only [Act.put, List.getElem_toArray, List.getElem_cons_succ, List.getElem_cons_zero, List.setIfInBounds_toArray, List.set_cons_zero, List.set_cons_succ]
    refine' anyI_take R 4 rfl (v := ?_) (by kernel_rfl) (by rfl) (fun V hV => ?hy) HS0.out ?_
    case hy => ((try dsimp only at hV);  obtain ⟨⟨y0, y1, y2⟩, y9⟩ := hV; have y3 := (y9.cell (p := ⟨bB, off + i, none⟩) hbb).trans hcz; go_simp; try with_reducible rfl)
    try simp only [Act.put, List.getElem_toArray, List.getElem_cons_succ, List.getElem_cons_zero, List.setIfInBounds_toArray, List.set_cons_zero, List.set_cons_succ]
    refine anyI_one 5 (by kernel_rfl) rfl ?_
    try simp only [List.getElem_toArray, List.getElem_cons_succ, List.getElem_cons_zero]
    refine opE_step ?_
    rw [if_pos (by rfl)]
    go_simp
    go_at_call 13
    (with_reducible refine (CC.out _).mono ?_)
    rintro e wc ⟨rfl, hbc⟩
    have K10 := Lib.hid (K0.out.below hbc)
    replace HS0 := Lib.hid (show (fun V => GAt V gb l (D : Int) c ∧ Below W0.heap.size W0 V) wc from ⟨K10.out.gat (g := gb) (l := l) (d := (D : Int)) (c := c) (t := 24) (f := (0, 0)) (by simp), K10.out.bp.bel⟩)
    clear hbc
    try dsimp only
    refine ⟨HS0.out, ?_⟩
    try simp only [Act.put, List.getElem_toArray, List.getElem_cons_succ, List.getElem_cons_zero, List.setIfInBounds_toArray, List.set_cons_zero, List.set_cons_succ]
    refine anyI_one 6 (by kernel_rfl) rfl ?_
    try simp only [List.getElem_toArray, List.getElem_cons_succ, List.getElem_cons_zero]
    refine opE_step ?_
    rw [if_pos (by rfl)]
    go_simp
    go_at_call 10
    (with_reducible refine (CW.out _).mono ?_)
    rintro e wn ⟨rfl, rfl⟩
    try dsimp only
    refine ⟨HS0.out, ?_⟩
    try simp only [Act.put, List.getElem_toArray, List.getElem_cons_succ, List.getElem_cons_zero, List.setIfInBounds_toArray, List.set_cons_zero, List.set_cons_succ]
    refine' anyI_take R 7 rfl (v := ?_) (by kernel_rfl) (by rfl) (fun V hV => ?hy) HS0.out ?_
    case hy => ((try dsimp only at hV);  obtain ⟨⟨y0, y1, y2⟩, y9⟩ := hV; have y3 := (y9.cell (p := ⟨bB, off + i, none⟩) hbb).trans hcz; go_simp; try with_reducible rfl)
    try simp only [Act.put, List.getElem_toArray, List.getElem_cons_succ, List.getElem_cons_zero, List.setIfInBounds_toArray, List.set_cons_zero, List.set_cons_succ]
    refine anyI_tail (by kernel_rfl) ?_
    try simp only [List.drop_succ_cons, List.drop_zero]
    clear R
    go_wp2_with fail
    refine NoPanic.normal ?_
    go_wp2_with fail
    refine wp_region_noPanic (region_ord 18 [] (fun V => GAt V gb l (D : Int) c ∧ Below W0.heap.size W0 V) (by kernel_rfl) (by kernel_rfl) (fun _ _ _ _ _ h => h) fun R => ?_)
    change anyI _ _ _ _ _ _ 18 _ _ wn.drew
    have HS0 := Lib.hid (show (fun V => GAt V gb l (D : Int) c ∧ Below W0.heap.size W0 V) wn.drew from ⟨(K10.out.below (Below.refl _ wn).drew).gat (g := gb) (l := l) (d := (D : Int)) (c := c) (t := 24) (f := (0, 0)) (by simp), (K10.out.below (Below.refl _ wn).drew).bp.bel⟩)
    have K5 := Lib.hid (K10.out.below (Below.refl _ wn).drew)
    obtain ⟨V5, hV5⟩ : ∃ V, wn.drew = V := ⟨_, rfl⟩
    rw [hV5] at HS0 K5 ⊢
    clear hV5
    refine' anyI_take R 0 rfl (v := ?_) (by kernel_rfl) (by rfl) (fun V hV => ?hy) HS0.out ?_
    case hy => ((try dsimp only at hV);  obtain ⟨⟨y0, y1, y2⟩, y9⟩ := hV; have y3 := (y9.cell (p := ⟨bB, off + i, none⟩) hbb).trans hcz; go_simp; try with_reducible rfl)
    try simp only [Act.put, List.getElem_toArray, List.getElem_cons_succ, List.getElem_cons_zero, List.setIfInBounds_toArray, List.set_cons_zero, List.set_cons_succ]
    refine' anyI_take R 1 rfl (v := ?_) (by kernel_rfl) (by rfl) (fun V hV => ?hy) HS0.out ?_
    case hy => ((try dsimp only at hV);  obtain ⟨⟨y0, y1, y2⟩, y9⟩ := hV; have y3 := (y9.cell (p := ⟨bB, off + i, none⟩) hbb).trans hcz; go_simp; try with_reducible rfl)
    try simp only [Act.put, List.getElem_toArray, List.getElem_cons_succ, List.getElem_cons_zero, List.setIfInBounds_toArray, List.set_cons_zero, List.set_cons_succ]
    refine' anyI_take R 2 rfl (v := ?_) (by kernel_rfl) (by rfl) (fun V hV => ?hy) HS0.out ?_
    case hy => ((try dsimp only at hV);  obtain ⟨⟨y0, y1, y2⟩, y9⟩ := hV; have y3 := (y9.cell (p := ⟨bB, off + i, none⟩) hbb).trans hcz; go_simp; try with_reducible rfl)
    try simp only [Act.put, List.getElem_toArray, List.getElem_cons_succ, List.getElem_cons_zero, List.setIfInBounds_toArray, List.set_cons_zero, List.set_cons_succ]
    refine' anyI_take R 3 rfl (v := ?_) (by kernel_rfl) (by rfl) (fun V hV => ?hy) HS0.out ?_
    case hy => ((try dsimp only at hV);  obtain ⟨⟨y0, y1, y2⟩, y9⟩ := hV; have y3 := (y9.cell (p := ⟨bB, off + i, none⟩) hbb).trans hcz; go_simp; try with_reducible rfl)
    try simp only [Act.put, List.getElem_toArray, List.getElem_cons_succ, List.getElem_cons_zero, List.setIfInBounds_toArray, List.set_cons_zero, List.set_cons_succ]
    refine' anyI_take R 4 rfl (v := ?_) (by kernel_rfl) (by rfl) (fun V hV => ?hy) HS0.out ?_
    case hy => ((try dsimp only at hV);  obtain ⟨⟨y0, y1, y2⟩, y9⟩ := hV; have y3 := (y9.cell (p := ⟨bB, off + i, none⟩) hbb).trans hcz; go_simp; try with_reducible rfl)
    try simp only [Act.put, List.getElem_toArray, List.getElem_cons_succ, List.getElem_cons_zero, List.setIfInBounds_toArray, List.set_cons_zero, List.set_cons_succ]
    refine' anyI_take R 5 rfl (v := ?_) (by kernel_rfl) (by rfl) (fun V hV => ?hy) HS0.out ?_
    case hy => ((try dsimp only at hV);  obtain ⟨⟨y0, y1, y2⟩, y9⟩ := hV; have y3 := (y9.cell (p := ⟨bB, off + i, none⟩) hbb).trans hcz; go_simp; try with_reducible rfl)
    try simp only [Act.put, List.getElem_toArray, List.getElem_cons_succ, List.getElem_cons_zero, List.setIfInBounds_toArray, List.set_cons_zero, List.set_cons_succ]
    refine' anyI_take R 6 rfl (v := ?_) (by kernel_rfl) (by rfl) (fun V hV => ?hy) HS0.out ?_
    case hy => ((try dsimp only at hV);  obtain ⟨⟨y0, y1, y2⟩, y9⟩ := hV; have y3 := (y9.cell (p := ⟨bB, off + i, none⟩) hbb).trans hcz; go_simp; try with_reducible rfl)
    try simp only [Act.put, List.getElem_toArray, List.getElem_cons_succ, List.getElem_cons_zero, List.setIfInBounds_toArray, List.set_cons_zero, List.set_cons_succ]
    refine' anyI_take R 7 rfl (v := ?_) (by kernel_rfl) (by rfl) (fun V hV => ?hy) HS0.out ?_
    case hy => ((try dsimp only at hV);  obtain ⟨⟨y0, y1, y2⟩, y9⟩ := hV; have y3 := (y9.cell (p := ⟨bB, off + i, none⟩) hbb).trans hcz; go_simp; try with_reducible rfl)
    try simp only [Act.put, List.getElem_toArray, List.getElem_cons_succ, List.getElem_cons_zero, List.setIfInBounds_toArray, List.set_cons_zero, List.set_cons_succ]
    refine' anyI_take R 8 rfl (v := ?_) (by kernel_rfl) (by rfl) (fun V hV => ?hy) HS0.out ?_
    case hy => ((try dsimp only at hV);  obtain ⟨⟨y0, y1, y2⟩, y9⟩ := hV; have y3 := (y9.cell (p := ⟨bB, off + i, none⟩) hbb).trans hcz; go_simp; try with_reducible rfl)
    try simp only [Act.put, List.getElem_toArray, List.getElem_cons_succ, List.getElem_cons_zero, List.setIfInBounds_toArray, List.set_cons_zero, List.set_cons_succ]
    refine' anyI_take R 9 rfl (v := ?_) (by kernel_rfl) (by rfl) (fun V hV => ?hy) HS0.out ?_
    case hy => ((try dsimp only at hV);  obtain ⟨⟨y0, y1, y2⟩, y9⟩ := hV; have y3 := (y9.cell (p := ⟨bB, off + i, none⟩) hbb).trans hcz; go_simp; try with_reducible rfl)
    try simp only [Act.put, List.getElem_toArray, List.getElem_cons_succ, List.getElem_cons_zero, List.setIfInBounds_toArray, List.set_cons_zero, List.set_cons_succ]
    refine' anyI_take R 10 rfl (v := ?_) (by kernel_rfl) (by rfl) (fun V hV => ?hy) HS0.out ?_
    case hy => ((try dsimp only at hV);  obtain ⟨⟨y0, y1, y2⟩, y9⟩ := hV; have y3 := (y9.cell (p := ⟨bB, off + i, none⟩) hbb).trans hcz; go_simp; try with_reducible rfl)
    try simp only [Act.put, List.getElem_toArray, List.getElem_cons_succ, List.getElem_cons_zero, List.setIfInBounds_toArray, List.set_cons_zero, List.set_cons_succ]
    refine' anyI_take R 11 rfl (v := ?_) (by kernel_rfl) (by rfl) (fun V hV => ?hy) HS0.out ?_
    case hy => ((try dsimp only at hV);  obtain ⟨⟨y0, y1, y2⟩, y9⟩ := hV; have y3 := (y9.cell (p := ⟨bB, off + i, none⟩) hbb).trans hcz; go_simp; try with_reducible rfl)
    try simp only [Act.put, List.getElem_toArray, List.getElem_cons_succ, List.getElem_cons_zero, List.setIfInBounds_toArray, List.set_cons_zero, List.set_cons_succ]
    refine' anyI_take R 13 rfl (v := ?_) (by kernel_rfl) (by rfl) (fun V hV => ?hy) HS0.out ?_
    case hy => ((try dsimp only at hV);  obtain ⟨⟨y0, y1, y2⟩, y9⟩ := hV; have y3 := (y9.cell (p := ⟨bB, off + i, none⟩) hbb).trans hcz; go_simp; try with_reducible rfl)
    try simp only [Act.put, List.getElem_toArray, List.getElem_cons_succ, List.getElem_cons_zero, List.setIfInBounds_toArray, List.set_cons_zero, List.set_cons_succ]
    refine' anyI_take R 14 rfl (v := ?_) (by kernel_rfl) (by rfl) (fun V hV => ?hy) HS0.out ?_
    case hy => ((try dsimp only at hV);  obtain ⟨⟨y0, y1, y2⟩, y9⟩ := hV; have y3 := (y9.cell (p := ⟨bB, off + i, none⟩) hbb).trans hcz; go_simp; try with_reducible rfl)
    try simp only [Act.put, List.getElem_toArray, List.getElem_cons_succ, List.getElem_cons_zero, List.setIfInBounds_toArray, List.set_cons_zero, List.set_cons_succ]
    refine anyI_one 12 (by kernel_rfl) rfl ?_
    try simp only [List.getElem_toArray, List.getElem_cons_succ, List.getElem_cons_zero]
    refine opE_step ?_
    rw [if_pos (by rfl)]
    go_simp
    go_at_call 14
    rw [Hew.out]
    (with_reducible refine (CSe.out _).mono ?_)
    rintro e wx ⟨gx, rfl, hxo, hbx⟩
    have K11 := Lib.hid (K5.out.slice hbx hxo.rdbf)
    replace HS0 := Lib.hid (show (fun V => GAt V gb l (D : Int) c ∧ Below W0.heap.size W0 V) wx from ⟨K11.out.gat (g := gb) (l := l) (d := (D : Int)) (c := c) (t := 24) (f := (0, 0)) (by simp), K11.out.bp.bel⟩)
    clear hbx hxo
    try dsimp only
    refine ⟨HS0.out, ?_⟩
    try simp only [Act.put, List.getElem_toArray, List.getElem_cons_succ, List.getElem_cons_zero, List.setIfInBounds_toArray, List.set_cons_zero, List.set_cons_succ]
    refine anyI_one 15 (by kernel_rfl) rfl ?_
    try simp only [List.getElem_toArray, List.getElem_cons_succ, List.getElem_cons_zero]
    refine opE_step ?_
    rw [if_pos (by rfl)]
    go_simp
    go_at_call 15
    rw [Hei.out]
    (with_reducible refine (CD.out _ LW gx K11.out).mono ?_)
    rintro e wd ⟨rfl, Hd, kd⟩
    have Kd := Lib.hid (kd.less (K' := (LW ++ [(gl, Obj.cells (lv.map Value.bool).toArray 4 (0, 0)), (gb, Obj.cells #[.int .i64 l, .int .i64 (D : Int), .int .i64 c] 24 (0, 0))])) (R' := []) (S' := []) (fun _ h => h) (fun _ h => absurd h (by simp)) (fun _ h => absurd h (by simp)))
    replace HS0 := Lib.hid (show (fun V => GAt V gb l (D : Int) c ∧ Below W0.heap.size W0 V) wd from ⟨Kd.out.gat (g := gb) (l := l) (d := (D : Int)) (c := c) (t := 24) (f := (0, 0)) (by simp), Kd.out.bp.bel⟩)
    obtain ⟨g6, g7, g8⟩ := Kd.out.gat (g := gb) (l := l) (d := (D : Int)) (c := c) (t := 24) (f := (0, 0)) (by simp)
    clear kd
    try dsimp only
    refine ⟨HS0.out, ?_⟩
    try simp only [Act.put, List.getElem_toArray, List.getElem_cons_succ, List.getElem_cons_zero, List.setIfInBounds_toArray, List.set_cons_zero, List.set_cons_succ]
    refine' anyI_take R 16 rfl (v := ?_) (by kernel_rfl) (by rfl) (fun V hV => ?hy) HS0.out ?_
    case hy => ((try dsimp only at hV);  obtain ⟨⟨y0, y1, y2⟩, y9⟩ := hV; have y3 := (y9.cell (p := ⟨bB, off + i, none⟩) hbb).trans hcz; go_simp; try with_reducible rfl)
    try simp only [Act.put, List.getElem_toArray, List.getElem_cons_succ, List.getElem_cons_zero, List.setIfInBounds_toArray, List.set_cons_zero, List.set_cons_succ]
    refine' anyI_take R 17 rfl (v := ?_) (by kernel_rfl) (by rfl) (fun V hV => ?hy) HS0.out ?_
    case hy => ((try dsimp only at hV);  obtain ⟨⟨y0, y1, y2⟩, y9⟩ := hV; have y3 := (y9.cell (p := ⟨bB, off + i, none⟩) hbb).trans hcz; go_simp; try with_reducible rfl)
    try simp only [Act.put, List.getElem_toArray, List.getElem_cons_succ, List.getElem_cons_zero, List.setIfInBounds_toArray, List.set_cons_zero, List.set_cons_succ]
    refine anyI_tail (by kernel_rfl) ?_
    try simp only [List.drop_succ_cons, List.drop_zero]
    clear R
    go_wp2_with fail
    refine NoPanic.normal ?_
    go_wp2_with fail
    (with_reducible refine (CO.out _).mono ?_); rintro e wo ⟨rfl, hbo⟩
    have Ko := Lib.hid ((Kd.out.below hbo).less (K' := (gb, Obj.cells #[.int .i64 l, .int .i64 (D : Int), .int .i64 c] 24 (0, 0)) :: (gl, Obj.cells (lv.map Value.bool).toArray 4 (0, 0)) :: LW) (R' := []) (S' := []) mem_two1 (fun _ h => h) (fun _ h => h))
    clear hbo g4 g5 g6 g7 g8
    go_upto_block 2 with fail
    refine wp_block ?_
    refine urB _ _ _ _ _ _ _ _ _ _ _ _ _ _ _ _ _ _ _ _ _ _ _ _ _ _ _ _ _ _ _ _ _ _ _ _ _ _ _ _ _ _ _ _ _ _ _ _ _ _ _ _ _ _ _ _ _ _ _ _ _ _ _ _ _ _ _ _ _ _ _ _ _ _ _ _ _ _ _ _ _ _ _ _ _ _ _ _ _ _ _ _ _ _ _ _ _ _ _ _ _ _ _ _ _ _ _ _ _ _ _ _ _ _ _ _ _ _ _ _ _ _ _ _ Gr'.out UM.out UN.out A2.out.da HRow.out HSm.out (fun V hV => HVL.out V fun p hp => hV p (List.mem_cons_of_mem _ hp)) ⟨Nat.zero_le _, Ko.out⟩ (fun v6 v17 v18 v19 v20 v21 v22 v79 v80 v81 v82 v83 v84 v85 v86 v87 v88 v89 v90 v91 v92 v93 v94 v95 v96 v97 v98 v99 v100 v101 v102 v103 v104 v105 v106 v107 v108 v109 v110 v111 v112 v113 v114 v115 v116 v117 v118 v119 v120 v121 v122 v123 v124 v125 v126 s V8 hI hx8 => ?_)
    have K8 := Lib.hid (hI.2.less (K' := [(gl, Obj.cells (lv.map Value.bool).toArray 4 (0, 0)), (gb, Obj.cells #[.int .i64 l, .int .i64 (D : Int), .int .i64 c] 24 (0, 0))]) (R' := []) (S' := []) mem_two2 (fun _ h => h) (fun _ h => h))
    clear hI hx8 Ko
    go_wp2_with fail
    exact HK.out _ _ _ _ _ _ _ _ _ _ _ _ _ _ _ _ _ _ _ _ _ _ _ _ _ _ _ _ _ _ _ _ _ _ _ _ _ _ _ _ _ _ _ _ _ _ _ _ _ _ _ _ _ _ _ _ _ _ _ _ _ _ _ _ _ _ _ _ _ _ _ _ _ _ _ _ _ _ _ _ _ _ _ _ _ _ _ _ _ _ _ _ _ _ _ _ _ _ _ _ _ _ _ _ _ _ _ _ _ ⟨by omega, K8.out, A2.out, UM.out, hdn2⟩ (by omega)
  · clear HK hk ha hup gr hzm hlive
    by_cases h1 : i < ats.length
    · have i1 : (i : Int) < (ats.length : Int) := by omega
      have i6 : ¬ (i : Int) < 6 := by omega
      go_wp2_with fail
      exact HX.out _ _ _ _ _ _ _ _ _ _ _ _ _ _ _ _ _ _ _ _ _ _ _ _ _ _ _ _ _ _ _ _ _ _ _ _ _ _ _ _ _ _ _ _ _ _ _ _ _ _ _ _ _ _ _ _ _ _ _ _ _ _ _ _ _ _ _ _ _ _ _ _ _ _ _ _ _ _ _ _ _ _ _ _ _ _ _ _ _ _ _ _ _ _ _ _ _ _ _ _ _ _ _ _ _ trivial
    · have i1 : ¬ (i : Int) < (ats.length : Int) := by omega
      go_wp2_with fail
      exact HX.out _ _ _ _ _ _ _ _ _ _ _ _ _ _ _ _ _ _ _ _ _ _ _ _ _ _ _ _ _ _ _ _ _ _ _ _ _ _ _ _ _ _ _ _ _ _ _ _ _ _ _ _ _ _ _ _ _ _ _ _ _ _ _ _ _ _ _ _ _ _ _ _ _ _ _ _ _ _ _ _ _ _ _ _ _ _ _ _ _ _ _ _ _ _ _ _ _ _ _ _ _ _ _ _ _ trivial
set_option maxRecDepth 100000 in
set_option maxHeartbeats 3200000 in
theorem urC {W0 : World} {n l c r : Int} {D F W b gb gl cm : Nat} {B : Option Addr} {ats : List Int} {lv : List Bool} {H0 : BH} {N0 : Bch} {ds0 : Nat → List (List UInt8)} {w : World} (u0 u1 u3 u4 u5 u6 u11 u12 u13 u14 u15 u16 u17 u18 u19 u20 u21 u22 u23 u24 u25 u26 u27 u28 u29 u30 u31 u32 u33 u34 u35 u36 u37 u38 u39 u40 u41 u42 u43 u44 u45 u46 u47 u48 u49 u50 u51 u52 u53 u54 u55 u56 u57 u58 u59 u60 u61 u62 u63 u64 u65 u66 u67 u68 u69 u70 u71 u72 u73 u74 u75 u76 u77 u78 u79 u80 u81 u82 u83 u84 u85 u86 u87 u88 u89 u90 u91 u92 u93 u94 u95 u96 u97 u98 u99 u100 u101 u102 u103 u104 u105 u106 u107 u108 u109 u110 u111 u112 u113 u114 u115 u116 u117 u118 u119 u120 u121 u122 u123 u124 u125 u126 u127 : Value) (Q : Exit → Act → World → Prop) (hu : UpdC) (ht : TabOk W0) (gr : Gr n l c r D F W) (hcm : ats.length ≤ cm) (hzm : RdZ W0 W0.heap.size B ats) (hll : lv.length = D) (hlive : ∀ i, i < D → lv.getD i false = true) (hI : (0 ≤ 6 ∧ KS W0 w b H0 N0 [(gl, Obj.cells (lv.map Value.bool).toArray 4 (0, 0)), (gb, Obj.cells #[.int .i64 l, .int .i64 (D : Int), .int .i64 c] 24 (0, 0))] [] [] ∧ Arr N0 D lv l c W ds0 ∧ Up N0 D ∧ N0.done ≤ 35 * 0))
    (hX : ∀ (v6 v11 v12 v13 v14 v15 v16 v17 v18 v19 v20 v21 v22 v35 v36 v37 v38 v39 v40 v41 v42 v43 v44 v45 v46 v47 v48 v49 v50 v51 v52 v53 v54 v55 v56 v57 v58 v59 v60 v61 v62 v63 v64 v65 v66 v67 v68 v69 v70 v71 v72 v73 v74 v75 v76 v77 v78 v79 v80 v81 v82 v83 v84 v85 v86 v87 v88 v89 v90 v91 v92 v93 v94 v95 v96 v97 v98 v99 v100 v101 v102 v103 v104 v105 v106 v107 v108 v109 v110 v111 v112 v113 v114 v115 v116 v117 v118 v119 v120 v121 v122 v123 v124 v125 v126 : Value) (i : Nat) (H : BH) (N : Bch) (ds : Nat → List (List UInt8)) (V : World), (i ≤ 6 ∧ KS W0 V b H N [(gl, Obj.cells (lv.map Value.bool).toArray 4 (0, 0)), (gb, Obj.cells #[.int .i64 l, .int .i64 (D : Int), .int .i64 c] 24 (0, 0))] [] [] ∧ Arr N D lv l c W ds ∧ Up N D ∧ N.done ≤ 35 * i) → (True) → Q (.exit 0) ⟨List.toArray (u0 :: u1 :: (.slice B ats.length cm) :: u3 :: u4 :: u5 :: v6 :: (.pointer (some ⟨gb, 0, none⟩)) :: (.pointer (some ⟨b, 0, none⟩)) :: (.slice (some ⟨gl, 0, none⟩) D D) :: (.int .i64 ((i : Nat) : Int)) :: v11 :: v12 :: v13 :: v14 :: v15 :: v16 :: v17 :: v18 :: v19 :: v20 :: v21 :: v22 :: u23 :: u24 :: u25 :: u26 :: u27 :: u28 :: u29 :: u30 :: u31 :: u32 :: u33 :: u34 :: v35 :: v36 :: v37 :: v38 :: v39 :: v40 :: v41 :: v42 :: v43 :: v44 :: v45 :: v46 :: v47 :: v48 :: v49 :: v50 :: v51 :: v52 :: v53 :: v54 :: v55 :: v56 :: v57 :: v58 :: v59 :: v60 :: v61 :: v62 :: v63 :: v64 :: v65 :: v66 :: v67 :: v68 :: v69 :: v70 :: v71 :: v72 :: v73 :: v74 :: v75 :: v76 :: v77 :: v78 :: v79 :: v80 :: v81 :: v82 :: v83 :: v84 :: v85 :: v86 :: v87 :: v88 :: v89 :: v90 :: v91 :: v92 :: v93 :: v94 :: v95 :: v96 :: v97 :: v98 :: v99 :: v100 :: v101 :: v102 :: v103 :: v104 :: v105 :: v106 :: v107 :: v108 :: v109 :: v110 :: v111 :: v112 :: v113 :: v114 :: v115 :: v116 :: v117 :: v118 :: v119 :: v120 :: v121 :: v122 :: v123 :: v124 :: v125 :: v126 :: u127 :: []), []⟩ V) :
    Code.wp Tryz.prog (.loop (sub [1, 1, 1, 1, 1, 0, 1, 0, 0] codeUR)) Q ⟨List.toArray (u0 :: u1 :: (.slice B ats.length cm) :: u3 :: u4 :: u5 :: u6 :: (.pointer (some ⟨gb, 0, none⟩)) :: (.pointer (some ⟨b, 0, none⟩)) :: (.slice (some ⟨gl, 0, none⟩) D D) :: (.int .i64 ((0 : Nat) : Int)) :: u11 :: u12 :: u13 :: u14 :: u15 :: u16 :: u17 :: u18 :: u19 :: u20 :: u21 :: u22 :: u23 :: u24 :: u25 :: u26 :: u27 :: u28 :: u29 :: u30 :: u31 :: u32 :: u33 :: u34 :: u35 :: u36 :: u37 :: u38 :: u39 :: u40 :: u41 :: u42 :: u43 :: u44 :: u45 :: u46 :: u47 :: u48 :: u49 :: u50 :: u51 :: u52 :: u53 :: u54 :: u55 :: u56 :: u57 :: u58 :: u59 :: u60 :: u61 :: u62 :: u63 :: u64 :: u65 :: u66 :: u67 :: u68 :: u69 :: u70 :: u71 :: u72 :: u73 :: u74 :: u75 :: u76 :: u77 :: u78 :: u79 :: u80 :: u81 :: u82 :: u83 :: u84 :: u85 :: u86 :: u87 :: u88 :: u89 :: u90 :: u91 :: u92 :: u93 :: u94 :: u95 :: u96 :: u97 :: u98 :: u99 :: u100 :: u101 :: u102 :: u103 :: u104 :: u105 :: u106 :: u107 :: u108 :: u109 :: u110 :: u111 :: u112 :: u113 :: u114 :: u115 :: u116 :: u117 :: u118 :: u119 :: u120 :: u121 :: u122 :: u123 :: u124 :: u125 :: u126 :: u127 :: []), []⟩ w := by
  refine wp_loop_ghost (fun gk a V => ∀ C : Prop, (∀ (u6 u11 u12 u13 u14 u15 u16 u17 u18 u19 u20 u21 u22 u35 u36 u37 u38 u39 u40 u41 u42 u43 u44 u45 u46 u47 u48 u49 u50 u51 u52 u53 u54 u55 u56 u57 u58 u59 u60 u61 u62 u63 u64 u65 u66 u67 u68 u69 u70 u71 u72 u73 u74 u75 u76 u77 u78 u79 u80 u81 u82 u83 u84 u85 u86 u87 u88 u89 u90 u91 u92 u93 u94 u95 u96 u97 u98 u99 u100 u101 u102 u103 u104 u105 u106 u107 u108 u109 u110 u111 u112 u113 u114 u115 u116 u117 u118 u119 u120 u121 u122 u123 u124 u125 u126 : Value) (i : Nat) (H : BH) (N : Bch) (ds : Nat → List (List UInt8)), gk = 6 - i → (i ≤ 6 ∧ KS W0 V b H N [(gl, Obj.cells (lv.map Value.bool).toArray 4 (0, 0)), (gb, Obj.cells #[.int .i64 l, .int .i64 (D : Int), .int .i64 c] 24 (0, 0))] [] [] ∧ Arr N D lv l c W ds ∧ Up N D ∧ N.done ≤ 35 * i) → a = ⟨List.toArray (u0 :: u1 :: (.slice B ats.length cm) :: u3 :: u4 :: u5 :: u6 :: (.pointer (some ⟨gb, 0, none⟩)) :: (.pointer (some ⟨b, 0, none⟩)) :: (.slice (some ⟨gl, 0, none⟩) D D) :: (.int .i64 ((i : Nat) : Int)) :: u11 :: u12 :: u13 :: u14 :: u15 :: u16 :: u17 :: u18 :: u19 :: u20 :: u21 :: u22 :: u23 :: u24 :: u25 :: u26 :: u27 :: u28 :: u29 :: u30 :: u31 :: u32 :: u33 :: u34 :: u35 :: u36 :: u37 :: u38 :: u39 :: u40 :: u41 :: u42 :: u43 :: u44 :: u45 :: u46 :: u47 :: u48 :: u49 :: u50 :: u51 :: u52 :: u53 :: u54 :: u55 :: u56 :: u57 :: u58 :: u59 :: u60 :: u61 :: u62 :: u63 :: u64 :: u65 :: u66 :: u67 :: u68 :: u69 :: u70 :: u71 :: u72 :: u73 :: u74 :: u75 :: u76 :: u77 :: u78 :: u79 :: u80 :: u81 :: u82 :: u83 :: u84 :: u85 :: u86 :: u87 :: u88 :: u89 :: u90 :: u91 :: u92 :: u93 :: u94 :: u95 :: u96 :: u97 :: u98 :: u99 :: u100 :: u101 :: u102 :: u103 :: u104 :: u105 :: u106 :: u107 :: u108 :: u109 :: u110 :: u111 :: u112 :: u113 :: u114 :: u115 :: u116 :: u117 :: u118 :: u119 :: u120 :: u121 :: u122 :: u123 :: u124 :: u125 :: u126 :: u127 :: []), []⟩ → C) → C) (6 - 0) ?_ ?_
  · intro C hC
    exact hC _ _ _ _ _ _ _ _ _ _ _ _ _ _ _ _ _ _ _ _ _ _ _ _ _ _ _ _ _ _ _ _ _ _ _ _ _ _ _ _ _ _ _ _ _ _ _ _ _ _ _ _ _ _ _ _ _ _ _ _ _ _ _ _ _ _ _ _ _ _ _ _ _ _ _ _ _ _ _ _ _ _ _ _ _ _ _ _ _ _ _ _ _ _ _ _ _ _ _ _ _ _ _ _ _ (0) (H0) (N0) (ds0) rfl hI rfl
  · intro gk a V hI'
    refine hI' _ ?_
    intro u6 u11 u12 u13 u14 u15 u16 u17 u18 u19 u20 u21 u22 u35 u36 u37 u38 u39 u40 u41 u42 u43 u44 u45 u46 u47 u48 u49 u50 u51 u52 u53 u54 u55 u56 u57 u58 u59 u60 u61 u62 u63 u64 u65 u66 u67 u68 u69 u70 u71 u72 u73 u74 u75 u76 u77 u78 u79 u80 u81 u82 u83 u84 u85 u86 u87 u88 u89 u90 u91 u92 u93 u94 u95 u96 u97 u98 u99 u100 u101 u102 u103 u104 u105 u106 u107 u108 u109 u110 u111 u112 u113 u114 u115 u116 u117 u118 u119 u120 u121 u122 u123 u124 u125 u126 i H N ds hk hinv ha
    subst ha
    subst hk
    refine urCb _ _ _ _ _ _ _ _ _ _ _ _ _ _ _ _ _ _ _ _ _ _ _ _ _ _ _ _ _ _ _ _ _ _ _ _ _ _ _ _ _ _ _ _ _ _ _ _ _ _ _ _ _ _ _ _ _ _ _ _ _ _ _ _ _ _ _ _ _ _ _ _ _ _ _ _ _ _ _ _ _ _ _ _ _ _ _ _ _ _ _ _ _ _ _ _ _ _ _ _ _ _ _ _ _ _ _ _ _ _ _ _ _ _ _ _ _ _ _ _ _ _ _ _ _ hu ht gr hcm hzm hll hlive hinv (fun v6 v11 v12 v13 v14 v15 v16 v17 v18 v19 v20 v21 v22 v35 v36 v37 v38 v39 v40 v41 v42 v43 v44 v45 v46 v47 v48 v49 v50 v51 v52 v53 v54 v55 v56 v57 v58 v59 v60 v61 v62 v63 v64 v65 v66 v67 v68 v69 v70 v71 v72 v73 v74 v75 v76 v77 v78 v79 v80 v81 v82 v83 v84 v85 v86 v87 v88 v89 v90 v91 v92 v93 v94 v95 v96 v97 v98 v99 v100 v101 v102 v103 v104 v105 v106 v107 v108 v109 v110 v111 v112 v113 v114 v115 v116 v117 v118 v119 v120 v121 v122 v123 v124 v125 v126 H2 N2 ds2 V2 h2 hm => ?_) (fun v6 v11 v12 v13 v14 v15 v16 v17 v18 v19 v20 v21 v22 v35 v36 v37 v38 v39 v40 v41 v42 v43 v44 v45 v46 v47 v48 v49 v50 v51 v52 v53 v54 v55 v56 v57 v58 v59 v60 v61 v62 v63 v64 v65 v66 v67 v68 v69 v70 v71 v72 v73 v74 v75 v76 v77 v78 v79 v80 v81 v82 v83 v84 v85 v86 v87 v88 v89 v90 v91 v92 v93 v94 v95 v96 v97 v98 v99 v100 v101 v102 v103 v104 v105 v106 v107 v108 v109 v110 v111 v112 v113 v114 v115 v116 v117 v118 v119 v120 v121 v122 v123 v124 v125 v126 hx => hX v6 v11 v12 v13 v14 v15 v16 v17 v18 v19 v20 v21 v22 v35 v36 v37 v38 v39 v40 v41 v42 v43 v44 v45 v46 v47 v48 v49 v50 v51 v52 v53 v54 v55 v56 v57 v58 v59 v60 v61 v62 v63 v64 v65 v66 v67 v68 v69 v70 v71 v72 v73 v74 v75 v76 v77 v78 v79 v80 v81 v82 v83 v84 v85 v86 v87 v88 v89 v90 v91 v92 v93 v94 v95 v96 v97 v98 v99 v100 v101 v102 v103 v104 v105 v106 v107 v108 v109 v110 v111 v112 v113 v114 v115 v116 v117 v118 v119 v120 v121 v122 v123 v124 v125 v126 i H N ds V hinv hx)
    refine ⟨_, hm, fun C hC => ?_⟩
    exact hC v6 v11 v12 v13 v14 v15 v16 v17 v18 v19 v20 v21 v22 v35 v36 v37 v38 v39 v40 v41 v42 v43 v44 v45 v46 v47 v48 v49 v50 v51 v52 v53 v54 v55 v56 v57 v58 v59 v60 v61 v62 v63 v64 v65 v66 v67 v68 v69 v70 v71 v72 v73 v74 v75 v76 v77 v78 v79 v80 v81 v82 v83 v84 v85 v86 v87 v88 v89 v90 v91 v92 v93 v94 v95 v96 v97 v98 v99 v100 v101 v102 v103 v104 v105 v106 v107 v108 v109 v110 v111 v112 v113 v114 v115 v116 v117 v118 v119 v120 v121 v122 v123 v124 v125 v126 ((i + 1)) (H2) (N2) (ds2) rfl h2 rfl
set_option maxRecDepth 100000 in
set_option maxHeartbeats 3200000 in
theorem updaterows (hu : UpdC) (hp : UpdP) (n : Int) (A : Option Addr) (zl : List Int) (cl : Nat) (B : Option Addr) (ats : List Int) (cm : Nat) (w : World) (hn : (-9223372036854775808 ≤ n ∧ n ≤ 9223372036854775807)) (hcl : zl.length ≤ cl) (hzl : RdZ w w.heap.size A zl) (hcm : ats.length ≤ cm) (hzm : RdZ w w.heap.size B ats) (ht : TabOk w) :
    Calls Tryz.prog 6 #[.int .i64 n, .slice A zl.length cl, .slice B ats.length cm] w fun e w' => e = .returned (.bool true) ∧ Below w.heap.size w w' := by
  have hpn := ptr_eq
  have HP := Lib.hid (fun V => playGood_any n V hn)
  obtain ⟨D, F, W, hD, gr⟩ := gr_of n (r := 0) (by omega) (by omega)
  rw [hD] at HP
  have hd8 := gr.d8; have hd3 := gr.d3; have hw7 := gr.w7
  have HWk := Lib.hid (fun V => wakesUpd_any hp V)
  generalize goL n = l at *
  generalize goC n = c at *
  have CFl := Lib.hid (fun (w1 : World) (hb1 : Below w.heap.size w w1) => filled_open gr D (Nat.le_refl _) hd8 zl.length cl hb1 rfl hcl hzl)
  have Gr' := Lib.hid gr
  have Hzm := Lib.hid hzm
  have hll := liveL_len 0 D
  have hlive := fun i (hi : i < D) => live0 hi
  have hlm := hzm.1
  clear hD hn hzl hzm gr hp
  go_enter Tryz.func6, Tryz.ntmps6
  go_wp2_with fail
  (with_reducible refine (HP.out _).mono ?_); rintro e w1 ⟨rfl, hb1⟩
  have G := gat_new w1 l D c 24 (0, 0)
  obtain ⟨g1, g2, g3⟩ := G
  have CFl1 := Lib.hid (CFl.out w1 hb1)
  clear hb1 CFl
  go_wp2_with fail
  (with_reducible refine CFl1.out.mono ?_); rintro e w2 ⟨b, H0, N0, rfl, k0, f0⟩
  have CLv := Lib.hid (ks_live k0 0 D (by omega) (by omega))
  obtain ⟨g4, g5, g6⟩ := k0.gat (g := w1.heap.size) (l := l) (d := (D : Int)) (c := c) (t := 24) (f := (0, 0)) (by simp)
  have Hf0 := Lib.hid f0
  clear k0 f0 CFl1 g1 g2 g3
  generalize w1.heap.size = gb at *
  go_wp2_with fail
  (with_reducible refine CLv.out.mono ?_); rintro e w3 ⟨gl, rfl, k1⟩
  generalize liveL 0 D = lv at hll k1 hlive
  have K1 := Lib.hid k1
  have Ha := Lib.hid (Hf0.out.arr lv)
  have Hup := Lib.hid (show Up N0 D from ⟨Hf0.out.gd.n, Hf0.out.gd.dn, Hf0.out.gd.f⟩)
  have hdn : N0.done ≤ 35 * 0 := by rw [Hf0.out.gd.done]; omega
  clear k1 CLv g4 g5 g6 Hf0
  go_upto_block 0 with fail
  refine wp_block ?_
  refine urC _ _ _ _ _ _ _ _ _ _ _ _ _ _ _ _ _ _ _ _ _ _ _ _ _ _ _ _ _ _ _ _ _ _ _ _ _ _ _ _ _ _ _ _ _ _ _ _ _ _ _ _ _ _ _ _ _ _ _ _ _ _ _ _ _ _ _ _ _ _ _ _ _ _ _ _ _ _ _ _ _ _ _ _ _ _ _ _ _ _ _ _ _ _ _ _ _ _ _ _ _ _ _ _ _ _ _ _ _ _ _ _ _ _ _ _ _ _ _ _ _ _ _ _ hu ht Gr'.out hcm Hzm.out hll hlive ⟨Nat.zero_le _, K1.out, Ha.out, Hup.out, hdn⟩ (fun v6 v11 v12 v13 v14 v15 v16 v17 v18 v19 v20 v21 v22 v35 v36 v37 v38 v39 v40 v41 v42 v43 v44 v45 v46 v47 v48 v49 v50 v51 v52 v53 v54 v55 v56 v57 v58 v59 v60 v61 v62 v63 v64 v65 v66 v67 v68 v69 v70 v71 v72 v73 v74 v75 v76 v77 v78 v79 v80 v81 v82 v83 v84 v85 v86 v87 v88 v89 v90 v91 v92 v93 v94 v95 v96 v97 v98 v99 v100 v101 v102 v103 v104 v105 v106 v107 v108 v109 v110 v111 v112 v113 v114 v115 v116 v117 v118 v119 v120 v121 v122 v123 v124 v125 v126 i H8 N8 ds8 V8 hI _ => ?_)
  have F8 := Lib.hid hI.2.1.bp.bel
  clear hI K1 Ha Hup hdn
  go_wp2_with fail
  (with_reducible refine (HWk.out _).mono ?_); rintro e w9 ⟨rfl, hb9⟩
  have F9 := F8.out.trans (hb9.mono F8.out.size)
  go_wp2
  go_ret
  exact ⟨rfl, F9⟩
end Go.Proofs.YtenkkdnepmoihaaGreatDoor
end
