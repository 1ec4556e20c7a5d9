/- PlanTells: its loop. -/
import Derived.Test.YtabeadbnoifedaaPlanKit
import Derived.Test.YtabeadbnoifedaaRefPlanSpan
import Derived.Test.YtabeadbnoifedaaGsSet
import Derived.Test.YtabeadbnoifedaaSub
set_option linter.unusedVariables false
set_option linter.unusedSimpArgs false
namespace Go.Proofs.Ytabeadbnoifedaa
open Go.RowKit

noncomputable def codePT : Code := Try.f5.body.getD .skip
set_option maxRecDepth 100000 in
set_option maxHeartbeats 3200000 in
theorem ptlb {w0 : World} {gb : Nat} {l d c l' d' c' k : Int} {i : Int} {w : World} (u0 u1 u3 u4 u5 u6 u7 u8 u12 u13 u14 u15 u16 u17 u18 u19 u20 u21 u22 u23 u24 u25 u26 u27 u28 u29 u30 u31 u32 u33 u34 u35 u36 u37 u38 u39 u40 u41 u42 u43 u44 u45 u46 u47 u48 u49 u50 u51 u52 u53 u54 u55 u56 u57 u58 u59 u60 u61 u62 u63 u64 u65 u66 u67 u68 u69 u70 u71 u72 u73 u74 u75 u76 u77 u78 u79 u80 u81 u82 u83 u84 u85 u86 u87 u88 u89 u90 u91 u92 u93 u94 u95 u96 u97 u98 u99 u100 u101 u102 u103 u104 u105 u106 u107 u108 u109 u110 u111 u112 u113 u114 u115 u116 u117 u118 u119 : Value) (K : Act → World → Prop) (Q0 : Exit → Act → World → Prop) (hl : (-9223372036854775808 ≤ l ∧ l ≤ 9223372036854775807)) (hd : (-9223372036854775808 ≤ d ∧ d ≤ 9223372036854775807)) (hc : (-9223372036854775808 ≤ c ∧ c ≤ 9223372036854775807)) (hl' : (-9223372036854775808 ≤ l' ∧ l' ≤ 9223372036854775807)) (hd' : (-9223372036854775808 ≤ d' ∧ d' ≤ 9223372036854775807)) (hc' : (-9223372036854775808 ≤ c' ∧ c' ≤ 9223372036854775807)) (hI : (-1 ≤ i ∧ i ≤ 19 ∧ GS2 w0 w0.heap.size gb (gb + 1) l d c l' d' c' w))
    (hK : ∀ (v8 v12 v13 v14 v15 v47 v48 v49 v50 v51 v52 v53 v54 v55 v56 v57 v58 v59 v60 v61 v62 v63 v64 v65 v66 v67 v68 v69 v70 v71 v72 v73 v74 v75 v76 v77 v78 v79 v80 v81 v82 v83 : Value)  (V : World), (-1 ≤ (i + 1) ∧ (i + 1) ≤ 19 ∧ GS2 w0 w0.heap.size gb (gb + 1) l d c l' d' c' V) → (19 - (i + 1)).toNat < (19 - i).toNat → K ⟨List.toArray (u0 :: u1 :: (.int .i64 k) :: u3 :: u4 :: u5 :: u6 :: u7 :: v8 :: (.pointer (some ⟨gb, 0, none⟩)) :: (.pointer (some ⟨gb + 1, 0, none⟩)) :: (.int .i64 (i + 1)) :: v12 :: v13 :: v14 :: v15 :: u16 :: u17 :: u18 :: u19 :: u20 :: u21 :: u22 :: u23 :: u24 :: u25 :: u26 :: u27 :: u28 :: u29 :: u30 :: u31 :: u32 :: u33 :: u34 :: u35 :: u36 :: u37 :: u38 :: u39 :: u40 :: u41 :: u42 :: u43 :: u44 :: u45 :: u46 :: v47 :: v48 :: v49 :: v50 :: v51 :: v52 :: v53 :: v54 :: v55 :: v56 :: v57 :: v58 :: v59 :: v60 :: v61 :: v62 :: v63 :: v64 :: v65 :: v66 :: v67 :: v68 :: v69 :: v70 :: v71 :: v72 :: v73 :: v74 :: v75 :: v76 :: v77 :: v78 :: v79 :: v80 :: v81 :: v82 :: v83 :: u84 :: u85 :: u86 :: u87 :: u88 :: u89 :: u90 :: u91 :: u92 :: u93 :: u94 :: u95 :: u96 :: u97 :: u98 :: u99 :: u100 :: u101 :: u102 :: u103 :: u104 :: u105 :: u106 :: u107 :: u108 :: u109 :: u110 :: u111 :: u112 :: u113 :: u114 :: u115 :: u116 :: u117 :: u118 :: u119 :: []), []⟩ V)
    (hX : ∀ (v8 v12 v13 v14 v15 v47 v48 v49 v50 v51 v52 v53 v54 v55 v56 v57 v58 v59 v60 v61 v62 v63 v64 v65 v66 v67 v68 v69 v70 v71 v72 v73 v74 v75 v76 v77 v78 v79 v80 v81 v82 v83 : Value), (True) → Q0 (.exit 0) ⟨List.toArray (u0 :: u1 :: (.int .i64 k) :: u3 :: u4 :: u5 :: u6 :: u7 :: v8 :: (.pointer (some ⟨gb, 0, none⟩)) :: (.pointer (some ⟨gb + 1, 0, none⟩)) :: (.int .i64 i) :: v12 :: v13 :: v14 :: v15 :: u16 :: u17 :: u18 :: u19 :: u20 :: u21 :: u22 :: u23 :: u24 :: u25 :: u26 :: u27 :: u28 :: u29 :: u30 :: u31 :: u32 :: u33 :: u34 :: u35 :: u36 :: u37 :: u38 :: u39 :: u40 :: u41 :: u42 :: u43 :: u44 :: u45 :: u46 :: v47 :: v48 :: v49 :: v50 :: v51 :: v52 :: v53 :: v54 :: v55 :: v56 :: v57 :: v58 :: v59 :: v60 :: v61 :: v62 :: v63 :: v64 :: v65 :: v66 :: v67 :: v68 :: v69 :: v70 :: v71 :: v72 :: v73 :: v74 :: v75 :: v76 :: v77 :: v78 :: v79 :: v80 :: v81 :: v82 :: v83 :: u84 :: u85 :: u86 :: u87 :: u88 :: u89 :: u90 :: u91 :: u92 :: u93 :: u94 :: u95 :: u96 :: u97 :: u98 :: u99 :: u100 :: u101 :: u102 :: u103 :: u104 :: u105 :: u106 :: u107 :: u108 :: u109 :: u110 :: u111 :: u112 :: u113 :: u114 :: u115 :: u116 :: u117 :: u118 :: u119 :: []), []⟩ w) :
    Code.wp Try.prog (sub [1, 1, 1, 1, 0, 1, 0, 0] codePT) (Exit.then K Q0) ⟨List.toArray (u0 :: u1 :: (.int .i64 k) :: u3 :: u4 :: u5 :: u6 :: u7 :: u8 :: (.pointer (some ⟨gb, 0, none⟩)) :: (.pointer (some ⟨gb + 1, 0, none⟩)) :: (.int .i64 i) :: u12 :: u13 :: u14 :: u15 :: u16 :: u17 :: u18 :: u19 :: u20 :: u21 :: u22 :: u23 :: u24 :: u25 :: u26 :: u27 :: u28 :: u29 :: u30 :: u31 :: u32 :: u33 :: u34 :: u35 :: u36 :: u37 :: u38 :: u39 :: u40 :: u41 :: u42 :: u43 :: u44 :: u45 :: u46 :: u47 :: u48 :: u49 :: u50 :: u51 :: u52 :: u53 :: u54 :: u55 :: u56 :: u57 :: u58 :: u59 :: u60 :: u61 :: u62 :: u63 :: u64 :: u65 :: u66 :: u67 :: u68 :: u69 :: u70 :: u71 :: u72 :: u73 :: u74 :: u75 :: u76 :: u77 :: u78 :: u79 :: u80 :: u81 :: u82 :: u83 :: u84 :: u85 :: u86 :: u87 :: u88 :: u89 :: u90 :: u91 :: u92 :: u93 :: u94 :: u95 :: u96 :: u97 :: u98 :: u99 :: u100 :: u101 :: u102 :: u103 :: u104 :: u105 :: u106 :: u107 :: u108 :: u109 :: u110 :: u111 :: u112 :: u113 :: u114 :: u115 :: u116 :: u117 :: u118 :: u119 :: []), []⟩ w := by
  have HK := Lib.hid hK
  have HX := Lib.hid hX
  clear hK hX
  conv => arg 2; whnf
  obtain ⟨hi0, hi1, hS⟩ := hI
  obtain ⟨g1, g2, g3, g4, g5, g6, F⟩ := hS
  by_cases hlt : i < 19
  · have hlt2 : decide (i < 19) = true := decide_eq_true hlt
    have C1 := Lib.hid (fun W => planSpan_any l d c l' d' c' i W hl hd hc hl' hd' hc' (by omega))
    have C2 := Lib.hid (fun W => refSpan_any l d c l' d' c' i W hl hd hc hl' hd' hc' (by omega))
    have C3 := Lib.hid (fun W => planCursor_any l d c l' d' c' i W hl hd hc hl' hd' hc' (by omega))
    have C4 := Lib.hid (fun W => refCursor_any l d c l' d' c' i W hl hd hc hl' hd' hc' (by omega))
    generalize pnF l d c l' d' c' i = x at C1 C2
    generalize pnT l d c l' d' c' i = y at C1 C2
    generalize pnC l d c l' d' c' i = z at C3 C4
    clear HX hl hd hc hl' hd' hc'
    go_wp2_with fail
    (with_reducible refine (C1.out _).mono ?_); rintro e wk1 ⟨rfl, hb⟩
    have SK1 := GS2.later (w0 := w0) (B := w0.heap.size) ⟨g1, g2, g3, g4, g5, g6, F⟩ hb
    clear hb g1 g2 g3 g4 g5 g6 F
    obtain ⟨g1, g2, g3, g4, g5, g6, F⟩ := SK1
    go_wp2_with fail
    (with_reducible refine (C2.out _).mono ?_); rintro e wk2 ⟨rfl, hb⟩
    have SK2 := GS2.later (w0 := w0) (B := w0.heap.size) ⟨g1, g2, g3, g4, g5, g6, F⟩ hb
    clear hb g1 g2 g3 g4 g5 g6 F
    obtain ⟨g1, g2, g3, g4, g5, g6, F⟩ := SK2
    go_wp2_with fail
    rename World => wz
    have SH : GS2 w0 w0.heap.size gb (gb + 1) l d c l' d' c' wz := ⟨g1, g2, g3, g4, g5, g6, F⟩
    clear g1 g2 g3 g4 g5 g6 F
    go_region_held3 (GS2 w0 w0.heap.size gb (gb + 1) l d c l' d' c')
      (first | assumption | exact GS2.drew ‹_›)
      (first
        | (go_at_call 11; (with_reducible refine (C3.out _).mono ?_); rintro e wq0 ⟨rfl, hb0⟩; have SQ0 : GS2 w0 w0.heap.size gb (gb + 1) l d c l' d' c' wq0 := GS2.later (by first | assumption | exact GS2.drew ‹_›) hb0; clear hb0)
        | (go_at_call 18; (with_reducible refine (C4.out _).mono ?_); rintro e wq1 ⟨rfl, hb1⟩; have SQ1 : GS2 w0 w0.heap.size gb (gb + 1) l d c l' d' c' wq1 := GS2.later (by first | assumption | exact GS2.drew ‹_›) hb1; clear hb1))
    all_goals
      obtain ⟨g1, g2, g3, g4, g5, g6, F⟩ := SQ1
      go_wp2_with fail
      exact HK.out _ _ _ _ _ _ _ _ _ _ _ _ _ _ _ _ _ _ _ _ _ _ _ _ _ _ _ _ _ _ _ _ _ _ _ _ _ _ _ _ _ _ _ ⟨by omega, by omega, ⟨g1, g2, g3, g4, g5, g6, F⟩⟩ (by omega)
  · have i1 : decide (i < 19) = false := decide_eq_false hlt
    clear HK hl hd hc hl' hd' hc'
    go_wp2_with fail
    exact HX.out _ _ _ _ _ _ _ _ _ _ _ _ _ _ _ _ _ _ _ _ _ _ _ _ _ _ _ _ _ _ _ _ _ _ _ _ _ _ _ _ _ _ trivial
set_option maxRecDepth 100000 in
set_option maxHeartbeats 3200000 in
theorem ptl {w0 : World} {gb : Nat} {l d c l' d' c' k : Int}  {w : World} (u0 u1 u3 u4 u5 u6 u7 u8 u12 u13 u14 u15 u16 u17 u18 u19 u20 u21 u22 u23 u24 u25 u26 u27 u28 u29 u30 u31 u32 u33 u34 u35 u36 u37 u38 u39 u40 u41 u42 u43 u44 u45 u46 u47 u48 u49 u50 u51 u52 u53 u54 u55 u56 u57 u58 u59 u60 u61 u62 u63 u64 u65 u66 u67 u68 u69 u70 u71 u72 u73 u74 u75 u76 u77 u78 u79 u80 u81 u82 u83 u84 u85 u86 u87 u88 u89 u90 u91 u92 u93 u94 u95 u96 u97 u98 u99 u100 u101 u102 u103 u104 u105 u106 u107 u108 u109 u110 u111 u112 u113 u114 u115 u116 u117 u118 u119 : Value) (Q : Exit → Act → World → Prop) (hl : (-9223372036854775808 ≤ l ∧ l ≤ 9223372036854775807)) (hd : (-9223372036854775808 ≤ d ∧ d ≤ 9223372036854775807)) (hc : (-9223372036854775808 ≤ c ∧ c ≤ 9223372036854775807)) (hl' : (-9223372036854775808 ≤ l' ∧ l' ≤ 9223372036854775807)) (hd' : (-9223372036854775808 ≤ d' ∧ d' ≤ 9223372036854775807)) (hc' : (-9223372036854775808 ≤ c' ∧ c' ≤ 9223372036854775807)) (hI : (-1 ≤ (-1 : Int) ∧ (-1 : Int) ≤ 19 ∧ GS2 w0 w0.heap.size gb (gb + 1) l d c l' d' c' w))
    (hX : ∀ (v8 v12 v13 v14 v15 v47 v48 v49 v50 v51 v52 v53 v54 v55 v56 v57 v58 v59 v60 v61 v62 v63 v64 v65 v66 v67 v68 v69 v70 v71 v72 v73 v74 v75 v76 v77 v78 v79 v80 v81 v82 v83 : Value) (i : Int) (V : World), (-1 ≤ i ∧ i ≤ 19 ∧ GS2 w0 w0.heap.size gb (gb + 1) l d c l' d' c' V) → (True) → Q (.exit 0) ⟨List.toArray (u0 :: u1 :: (.int .i64 k) :: u3 :: u4 :: u5 :: u6 :: u7 :: v8 :: (.pointer (some ⟨gb, 0, none⟩)) :: (.pointer (some ⟨gb + 1, 0, none⟩)) :: (.int .i64 i) :: v12 :: v13 :: v14 :: v15 :: u16 :: u17 :: u18 :: u19 :: u20 :: u21 :: u22 :: u23 :: u24 :: u25 :: u26 :: u27 :: u28 :: u29 :: u30 :: u31 :: u32 :: u33 :: u34 :: u35 :: u36 :: u37 :: u38 :: u39 :: u40 :: u41 :: u42 :: u43 :: u44 :: u45 :: u46 :: v47 :: v48 :: v49 :: v50 :: v51 :: v52 :: v53 :: v54 :: v55 :: v56 :: v57 :: v58 :: v59 :: v60 :: v61 :: v62 :: v63 :: v64 :: v65 :: v66 :: v67 :: v68 :: v69 :: v70 :: v71 :: v72 :: v73 :: v74 :: v75 :: v76 :: v77 :: v78 :: v79 :: v80 :: v81 :: v82 :: v83 :: u84 :: u85 :: u86 :: u87 :: u88 :: u89 :: u90 :: u91 :: u92 :: u93 :: u94 :: u95 :: u96 :: u97 :: u98 :: u99 :: u100 :: u101 :: u102 :: u103 :: u104 :: u105 :: u106 :: u107 :: u108 :: u109 :: u110 :: u111 :: u112 :: u113 :: u114 :: u115 :: u116 :: u117 :: u118 :: u119 :: []), []⟩ V) :
    Code.wp Try.prog (.loop (sub [1, 1, 1, 1, 0, 1, 0, 0] codePT)) Q ⟨List.toArray (u0 :: u1 :: (.int .i64 k) :: u3 :: u4 :: u5 :: u6 :: u7 :: u8 :: (.pointer (some ⟨gb, 0, none⟩)) :: (.pointer (some ⟨gb + 1, 0, none⟩)) :: (.int .i64 (-1 : Int)) :: u12 :: u13 :: u14 :: u15 :: u16 :: u17 :: u18 :: u19 :: u20 :: u21 :: u22 :: u23 :: u24 :: u25 :: u26 :: u27 :: u28 :: u29 :: u30 :: u31 :: u32 :: u33 :: u34 :: u35 :: u36 :: u37 :: u38 :: u39 :: u40 :: u41 :: u42 :: u43 :: u44 :: u45 :: u46 :: u47 :: u48 :: u49 :: u50 :: u51 :: u52 :: u53 :: u54 :: u55 :: u56 :: u57 :: u58 :: u59 :: u60 :: u61 :: u62 :: u63 :: u64 :: u65 :: u66 :: u67 :: u68 :: u69 :: u70 :: u71 :: u72 :: u73 :: u74 :: u75 :: u76 :: u77 :: u78 :: u79 :: u80 :: u81 :: u82 :: u83 :: u84 :: u85 :: u86 :: u87 :: u88 :: u89 :: u90 :: u91 :: u92 :: u93 :: u94 :: u95 :: u96 :: u97 :: u98 :: u99 :: u100 :: u101 :: u102 :: u103 :: u104 :: u105 :: u106 :: u107 :: u108 :: u109 :: u110 :: u111 :: u112 :: u113 :: u114 :: u115 :: u116 :: u117 :: u118 :: u119 :: []), []⟩ w := by
  refine wp_loop_ghost (fun gk a V => ∀ C : Prop, (∀ (u8 u12 u13 u14 u15 u47 u48 u49 u50 u51 u52 u53 u54 u55 u56 u57 u58 u59 u60 u61 u62 u63 u64 u65 u66 u67 u68 u69 u70 u71 u72 u73 u74 u75 u76 u77 u78 u79 u80 u81 u82 u83 : Value) (i : Int), gk = (19 - i).toNat → (-1 ≤ i ∧ i ≤ 19 ∧ GS2 w0 w0.heap.size gb (gb + 1) l d c l' d' c' V) → a = ⟨List.toArray (u0 :: u1 :: (.int .i64 k) :: u3 :: u4 :: u5 :: u6 :: u7 :: u8 :: (.pointer (some ⟨gb, 0, none⟩)) :: (.pointer (some ⟨gb + 1, 0, none⟩)) :: (.int .i64 i) :: u12 :: u13 :: u14 :: u15 :: u16 :: u17 :: u18 :: u19 :: u20 :: u21 :: u22 :: u23 :: u24 :: u25 :: u26 :: u27 :: u28 :: u29 :: u30 :: u31 :: u32 :: u33 :: u34 :: u35 :: u36 :: u37 :: u38 :: u39 :: u40 :: u41 :: u42 :: u43 :: u44 :: u45 :: u46 :: u47 :: u48 :: u49 :: u50 :: u51 :: u52 :: u53 :: u54 :: u55 :: u56 :: u57 :: u58 :: u59 :: u60 :: u61 :: u62 :: u63 :: u64 :: u65 :: u66 :: u67 :: u68 :: u69 :: u70 :: u71 :: u72 :: u73 :: u74 :: u75 :: u76 :: u77 :: u78 :: u79 :: u80 :: u81 :: u82 :: u83 :: u84 :: u85 :: u86 :: u87 :: u88 :: u89 :: u90 :: u91 :: u92 :: u93 :: u94 :: u95 :: u96 :: u97 :: u98 :: u99 :: u100 :: u101 :: u102 :: u103 :: u104 :: u105 :: u106 :: u107 :: u108 :: u109 :: u110 :: u111 :: u112 :: u113 :: u114 :: u115 :: u116 :: u117 :: u118 :: u119 :: []), []⟩ → C) → C) ((19 - (-1 : Int)).toNat) ?_ ?_
  · intro C hC
    exact hC _ _ _ _ _ _ _ _ _ _ _ _ _ _ _ _ _ _ _ _ _ _ _ _ _ _ _ _ _ _ _ _ _ _ _ _ _ _ _ _ _ _ ((-1 : Int)) rfl hI rfl
  · intro gk a V hI'
    refine hI' _ ?_
    intro u8 u12 u13 u14 u15 u47 u48 u49 u50 u51 u52 u53 u54 u55 u56 u57 u58 u59 u60 u61 u62 u63 u64 u65 u66 u67 u68 u69 u70 u71 u72 u73 u74 u75 u76 u77 u78 u79 u80 u81 u82 u83 i hk hinv ha
    subst ha
    subst hk
    refine ptlb _ _ _ _ _ _ _ _ _ _ _ _ _ _ _ _ _ _ _ _ _ _ _ _ _ _ _ _ _ _ _ _ _ _ _ _ _ _ _ _ _ _ _ _ _ _ _ _ _ _ _ _ _ _ _ _ _ _ _ _ _ _ _ _ _ _ _ _ _ _ _ _ _ _ _ _ _ _ _ _ _ _ _ _ _ _ _ _ _ _ _ _ _ _ _ _ _ _ _ _ _ _ _ _ _ _ _ _ _ _ _ _ _ _ _ _ _ _ hl hd hc hl' hd' hc' hinv (fun v8 v12 v13 v14 v15 v47 v48 v49 v50 v51 v52 v53 v54 v55 v56 v57 v58 v59 v60 v61 v62 v63 v64 v65 v66 v67 v68 v69 v70 v71 v72 v73 v74 v75 v76 v77 v78 v79 v80 v81 v82 v83  V2 h2 hm => ?_) (fun v8 v12 v13 v14 v15 v47 v48 v49 v50 v51 v52 v53 v54 v55 v56 v57 v58 v59 v60 v61 v62 v63 v64 v65 v66 v67 v68 v69 v70 v71 v72 v73 v74 v75 v76 v77 v78 v79 v80 v81 v82 v83 hx => hX v8 v12 v13 v14 v15 v47 v48 v49 v50 v51 v52 v53 v54 v55 v56 v57 v58 v59 v60 v61 v62 v63 v64 v65 v66 v67 v68 v69 v70 v71 v72 v73 v74 v75 v76 v77 v78 v79 v80 v81 v82 v83 i V hinv hx)
    refine ⟨_, hm, fun C hC => ?_⟩
    exact hC v8 v12 v13 v14 v15 v47 v48 v49 v50 v51 v52 v53 v54 v55 v56 v57 v58 v59 v60 v61 v62 v63 v64 v65 v66 v67 v68 v69 v70 v71 v72 v73 v74 v75 v76 v77 v78 v79 v80 v81 v82 v83 ((i + 1)) rfl h2 rfl
end Go.Proofs.Ytabeadbnoifedaa
