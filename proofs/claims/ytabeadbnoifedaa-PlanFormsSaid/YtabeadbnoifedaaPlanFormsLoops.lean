/- PlanForms: its loops. -/
import Derived.Test.YtabeadbnoifedaaPlanKit
import Derived.Test.YtabeadbnoifedaaSub
import Derived.Test.YtabeadbnoifedaaGs3
set_option linter.unusedVariables false
set_option linter.unusedSimpArgs false
namespace Go.Proofs.Ytabeadbnoifedaa
open Go.RowKit

noncomputable def codePF : Code := Try.f3.body.getD .skip
def rowF : Array Value := #[.int .i64 0, .int .i64 12, .int .i64 12, .int .i64 24, .int .i64 24, .int .i64 36, .int .i64 36, .int .i64 48]
def rowG : Array Value := #[.int .i64 0, .int .i64 12, .int .i64 24, .int .i64 32, .int .i64 32, .int .i64 0]
set_option maxRecDepth 100000 in
set_option maxHeartbeats 3200000 in
theorem pfAb {w0 : World} {n : Int} {gb tb : Nat} {k : Nat} {w : World} (u1 u6 u7 u8 u9 u10 u11 u12 u13 u14 u15 u16 u17 u18 u19 u20 u21 u22 u23 u24 u25 u26 u27 u28 u29 u30 u31 u32 u33 u34 u35 u36 u37 u38 u39 u40 u41 u42 u43 u44 u45 u46 u47 u48 u49 u50 u51 u52 u53 u54 u55 u56 u60 u61 u62 u63 u64 u65 u66 u67 u68 u69 u70 u71 u72 u73 u74 u75 u76 u77 u78 u79 u80 u81 u82 u83 u84 u85 u86 u87 u88 u89 u90 u91 u92 u93 u94 u95 u96 u97 u98 u99 u100 u101 u102 u103 u104 u105 u106 u107 u108 u109 u110 u111 u112 u113 u114 u115 u116 u117 u118 u119 u120 u121 u122 u123 u124 u125 u126 u127 u128 u129 u130 u131 u132 u133 u134 u135 u136 u137 u138 u139 : Value) (K : Act → World → Prop) (Q0 : Exit → Act → World → Prop)  (hI : (k ≤ 4 ∧ GS3 w0 w0.heap.size gb (gb + 1) (gb + 1 + 1) 5 3 1 6 5 4 5 3 2 w ∧ (World.heap w)[tb]? = some (.cells rowF 25 (0, 0))))
    (hK : ∀ (v6 v7 v8 v9 v60 v61 v62 v63 v64 v65 v66 v67 v68 v69 v70 v71 v72 v73 v74 v75 v76 v77 v78 v79 v80 v81 : Value)  (V : World), ((k + 1) ≤ 4 ∧ GS3 w0 w0.heap.size gb (gb + 1) (gb + 1 + 1) 5 3 1 6 5 4 5 3 2 V ∧ (World.heap V)[tb]? = some (.cells rowF 25 (0, 0))) → 4 - (k + 1) < 4 - k → K ⟨List.toArray ((.int .i64 n) :: u1 :: (.bool false) :: (.pointer (some ⟨gb, 0, none⟩)) :: (.pointer (some ⟨gb + 1, 0, none⟩)) :: (.pointer (some ⟨gb + 1 + 1, 0, none⟩)) :: v6 :: v7 :: v8 :: v9 :: u10 :: u11 :: u12 :: u13 :: u14 :: u15 :: u16 :: u17 :: u18 :: u19 :: u20 :: u21 :: u22 :: u23 :: u24 :: u25 :: u26 :: u27 :: u28 :: u29 :: u30 :: u31 :: u32 :: u33 :: u34 :: u35 :: u36 :: u37 :: u38 :: u39 :: u40 :: u41 :: u42 :: u43 :: u44 :: u45 :: u46 :: u47 :: u48 :: u49 :: u50 :: u51 :: u52 :: u53 :: u54 :: u55 :: u56 :: (.slice (some ⟨tb, 0, none⟩) 4 4) :: (.int .i64 4) :: (.int .i64 (((k + 1) : Nat) : Int)) :: v60 :: v61 :: v62 :: v63 :: v64 :: v65 :: v66 :: v67 :: v68 :: v69 :: v70 :: v71 :: v72 :: v73 :: v74 :: v75 :: v76 :: v77 :: v78 :: v79 :: v80 :: v81 :: u82 :: u83 :: u84 :: u85 :: u86 :: u87 :: u88 :: u89 :: u90 :: u91 :: u92 :: u93 :: u94 :: u95 :: u96 :: u97 :: u98 :: u99 :: u100 :: u101 :: u102 :: u103 :: u104 :: u105 :: u106 :: u107 :: u108 :: u109 :: u110 :: u111 :: u112 :: u113 :: u114 :: u115 :: u116 :: u117 :: u118 :: u119 :: u120 :: u121 :: u122 :: u123 :: u124 :: u125 :: u126 :: u127 :: u128 :: u129 :: u130 :: u131 :: u132 :: u133 :: u134 :: u135 :: u136 :: u137 :: u138 :: u139 :: []), []⟩ V)
    (hX : ∀ (v6 v7 v8 v9 v60 v61 v62 v63 v64 v65 v66 v67 v68 v69 v70 v71 v72 v73 v74 v75 v76 v77 v78 v79 v80 v81 : Value), (True) → Q0 (.exit 0) ⟨List.toArray ((.int .i64 n) :: u1 :: (.bool false) :: (.pointer (some ⟨gb, 0, none⟩)) :: (.pointer (some ⟨gb + 1, 0, none⟩)) :: (.pointer (some ⟨gb + 1 + 1, 0, none⟩)) :: v6 :: v7 :: v8 :: v9 :: u10 :: u11 :: u12 :: u13 :: u14 :: u15 :: u16 :: u17 :: u18 :: u19 :: u20 :: u21 :: u22 :: u23 :: u24 :: u25 :: u26 :: u27 :: u28 :: u29 :: u30 :: u31 :: u32 :: u33 :: u34 :: u35 :: u36 :: u37 :: u38 :: u39 :: u40 :: u41 :: u42 :: u43 :: u44 :: u45 :: u46 :: u47 :: u48 :: u49 :: u50 :: u51 :: u52 :: u53 :: u54 :: u55 :: u56 :: (.slice (some ⟨tb, 0, none⟩) 4 4) :: (.int .i64 4) :: (.int .i64 ((k : Nat) : Int)) :: v60 :: v61 :: v62 :: v63 :: v64 :: v65 :: v66 :: v67 :: v68 :: v69 :: v70 :: v71 :: v72 :: v73 :: v74 :: v75 :: v76 :: v77 :: v78 :: v79 :: v80 :: v81 :: u82 :: u83 :: u84 :: u85 :: u86 :: u87 :: u88 :: u89 :: u90 :: u91 :: u92 :: u93 :: u94 :: u95 :: u96 :: u97 :: u98 :: u99 :: u100 :: u101 :: u102 :: u103 :: u104 :: u105 :: u106 :: u107 :: u108 :: u109 :: u110 :: u111 :: u112 :: u113 :: u114 :: u115 :: u116 :: u117 :: u118 :: u119 :: u120 :: u121 :: u122 :: u123 :: u124 :: u125 :: u126 :: u127 :: u128 :: u129 :: u130 :: u131 :: u132 :: u133 :: u134 :: u135 :: u136 :: u137 :: u138 :: u139 :: []), []⟩ w) :
    Code.wp Try.prog (sub [1, 1, 1, 1, 0, 1, 0, 0] codePF) (Exit.then K Q0) ⟨List.toArray ((.int .i64 n) :: u1 :: (.bool false) :: (.pointer (some ⟨gb, 0, none⟩)) :: (.pointer (some ⟨gb + 1, 0, none⟩)) :: (.pointer (some ⟨gb + 1 + 1, 0, none⟩)) :: u6 :: u7 :: u8 :: u9 :: u10 :: u11 :: u12 :: u13 :: u14 :: u15 :: u16 :: u17 :: u18 :: u19 :: u20 :: u21 :: u22 :: u23 :: u24 :: u25 :: u26 :: u27 :: u28 :: u29 :: u30 :: u31 :: u32 :: u33 :: u34 :: u35 :: u36 :: u37 :: u38 :: u39 :: u40 :: u41 :: u42 :: u43 :: u44 :: u45 :: u46 :: u47 :: u48 :: u49 :: u50 :: u51 :: u52 :: u53 :: u54 :: u55 :: u56 :: (.slice (some ⟨tb, 0, none⟩) 4 4) :: (.int .i64 4) :: (.int .i64 ((k : Nat) : Int)) :: u60 :: u61 :: u62 :: u63 :: u64 :: u65 :: u66 :: u67 :: u68 :: u69 :: u70 :: u71 :: u72 :: u73 :: u74 :: u75 :: u76 :: u77 :: u78 :: u79 :: u80 :: u81 :: u82 :: u83 :: u84 :: u85 :: u86 :: u87 :: u88 :: u89 :: u90 :: u91 :: u92 :: u93 :: u94 :: u95 :: u96 :: u97 :: u98 :: u99 :: u100 :: u101 :: u102 :: u103 :: u104 :: u105 :: u106 :: u107 :: u108 :: u109 :: u110 :: u111 :: u112 :: u113 :: u114 :: u115 :: u116 :: u117 :: u118 :: u119 :: u120 :: u121 :: u122 :: u123 :: u124 :: u125 :: u126 :: u127 :: u128 :: u129 :: u130 :: u131 :: u132 :: u133 :: u134 :: u135 :: u136 :: u137 :: u138 :: u139 :: []), []⟩ w := by
  have HK := Lib.hid hK
  have HX := Lib.hid hX
  clear hK hX
  conv => arg 2; whnf
  obtain ⟨hk, hS, hT⟩ := hI
  obtain ⟨q1, q2, q3, q4, q5, q6, q7, q8, q9, F⟩ := hS
  have hcs : k = 0 ∨ k = 1 ∨ k = 2 ∨ k = 3 ∨ k = 4 := by omega
  rcases hcs with rfl | rfl | rfl | rfl | rfl
  · have HC := Lib.hid (fun V => planSpan_any 5 3 1 6 5 4 (0) V (by omega) (by omega) (by omega) (by omega) (by omega) (by omega) (by omega))
    rw [show pnF 5 3 1 6 5 4 (0) = 0 by decide] at HC
    rw [show pnT 5 3 1 6 5 4 (0) = 12 by decide] at HC
    have t0 : w.cell? ⟨tb, 0, none⟩ = some (.int .i64 0) := cell_of_row _ _ 0 _ _ _ hT
    have t1 : w.cell? ⟨tb, 1, none⟩ = some (.int .i64 12) := cell_of_row _ _ 1 _ _ _ hT
    have SB := GS3.later (w0 := w0) (B := w0.heap.size) ⟨q1, q2, q3, q4, q5, q6, q7, q8, q9, F⟩ (below1 w (.cells #[.int .i64 0, .int .i64 12] 25))
    have hT1 := ((below1 w (.cells #[.int .i64 0, .int .i64 12] 25)).block _ (Array.getElem?_eq_some_iff.1 hT).1).trans hT
    have GN := heap_alloc_new w (.cells #[.int .i64 0, .int .i64 12] 25)
    have HT := Lib.hid hT1
    clear q1 q2 q3 q4 q5 q6 q7 q8 q9 F hT hT1 HX
    obtain ⟨q1, q2, q3, q4, q5, q6, q7, q8, q9, F⟩ := SB
    go_wp2_with fail
    (with_reducible refine (HC.out _).mono ?_); rintro e wk ⟨rfl, hb⟩
    have SK := GS3.later (w0 := w0) (B := w0.heap.size) ⟨q1, q2, q3, q4, q5, q6, q7, q8, q9, F⟩ hb
    have hT2 := (hb.block _ (Array.getElem?_eq_some_iff.1 HT.out).1).trans HT.out
    have gn := (hb.block _ (Array.getElem?_eq_some_iff.1 GN).1).trans GN
    have n0 : wk.cell? ⟨w.heap.size, 0, none⟩ = some (.int .i64 0) := cell_of_row _ _ 0 _ _ _ gn
    have n1 : wk.cell? ⟨w.heap.size, 1, none⟩ = some (.int .i64 12) := cell_of_row _ _ 1 _ _ _ gn
    have HS := Lib.hid SK
    have HT2 := Lib.hid hT2
    clear hb q1 q2 q3 q4 q5 q6 q7 q8 q9 F hT2 gn GN SK HT t0 t1
    go_wp2_with fail
    exact HK.out _ _ _ _ _ _ _ _ _ _ _ _ _ _ _ _ _ _ _ _ _ _ _ _ _ _ _ ⟨by omega, HS.out, HT2.out⟩ (by omega)
  · have HC := Lib.hid (fun V => planSpan_any 5 3 1 6 5 4 (1) V (by omega) (by omega) (by omega) (by omega) (by omega) (by omega) (by omega))
    rw [show pnF 5 3 1 6 5 4 (1) = 12 by decide] at HC
    rw [show pnT 5 3 1 6 5 4 (1) = 24 by decide] at HC
    have t0 : w.cell? ⟨tb, 2, none⟩ = some (.int .i64 12) := cell_of_row _ _ 2 _ _ _ hT
    have t1 : w.cell? ⟨tb, 3, none⟩ = some (.int .i64 24) := cell_of_row _ _ 3 _ _ _ hT
    have SB := GS3.later (w0 := w0) (B := w0.heap.size) ⟨q1, q2, q3, q4, q5, q6, q7, q8, q9, F⟩ (below1 w (.cells #[.int .i64 12, .int .i64 24] 25))
    have hT1 := ((below1 w (.cells #[.int .i64 12, .int .i64 24] 25)).block _ (Array.getElem?_eq_some_iff.1 hT).1).trans hT
    have GN := heap_alloc_new w (.cells #[.int .i64 12, .int .i64 24] 25)
    have HT := Lib.hid hT1
    clear q1 q2 q3 q4 q5 q6 q7 q8 q9 F hT hT1 HX
    obtain ⟨q1, q2, q3, q4, q5, q6, q7, q8, q9, F⟩ := SB
    go_wp2_with fail
    (with_reducible refine (HC.out _).mono ?_); rintro e wk ⟨rfl, hb⟩
    have SK := GS3.later (w0 := w0) (B := w0.heap.size) ⟨q1, q2, q3, q4, q5, q6, q7, q8, q9, F⟩ hb
    have hT2 := (hb.block _ (Array.getElem?_eq_some_iff.1 HT.out).1).trans HT.out
    have gn := (hb.block _ (Array.getElem?_eq_some_iff.1 GN).1).trans GN
    have n0 : wk.cell? ⟨w.heap.size, 0, none⟩ = some (.int .i64 12) := cell_of_row _ _ 0 _ _ _ gn
    have n1 : wk.cell? ⟨w.heap.size, 1, none⟩ = some (.int .i64 24) := cell_of_row _ _ 1 _ _ _ gn
    have HS := Lib.hid SK
    have HT2 := Lib.hid hT2
    clear hb q1 q2 q3 q4 q5 q6 q7 q8 q9 F hT2 gn GN SK HT t0 t1
    go_wp2_with fail
    exact HK.out _ _ _ _ _ _ _ _ _ _ _ _ _ _ _ _ _ _ _ _ _ _ _ _ _ _ _ ⟨by omega, HS.out, HT2.out⟩ (by omega)
  · have HC := Lib.hid (fun V => planSpan_any 5 3 1 6 5 4 (2) V (by omega) (by omega) (by omega) (by omega) (by omega) (by omega) (by omega))
    rw [show pnF 5 3 1 6 5 4 (2) = 24 by decide] at HC
    rw [show pnT 5 3 1 6 5 4 (2) = 36 by decide] at HC
    have t0 : w.cell? ⟨tb, 4, none⟩ = some (.int .i64 24) := cell_of_row _ _ 4 _ _ _ hT
    have t1 : w.cell? ⟨tb, 5, none⟩ = some (.int .i64 36) := cell_of_row _ _ 5 _ _ _ hT
    have SB := GS3.later (w0 := w0) (B := w0.heap.size) ⟨q1, q2, q3, q4, q5, q6, q7, q8, q9, F⟩ (below1 w (.cells #[.int .i64 24, .int .i64 36] 25))
    have hT1 := ((below1 w (.cells #[.int .i64 24, .int .i64 36] 25)).block _ (Array.getElem?_eq_some_iff.1 hT).1).trans hT
    have GN := heap_alloc_new w (.cells #[.int .i64 24, .int .i64 36] 25)
    have HT := Lib.hid hT1
    clear q1 q2 q3 q4 q5 q6 q7 q8 q9 F hT hT1 HX
    obtain ⟨q1, q2, q3, q4, q5, q6, q7, q8, q9, F⟩ := SB
    go_wp2_with fail
    (with_reducible refine (HC.out _).mono ?_); rintro e wk ⟨rfl, hb⟩
    have SK := GS3.later (w0 := w0) (B := w0.heap.size) ⟨q1, q2, q3, q4, q5, q6, q7, q8, q9, F⟩ hb
    have hT2 := (hb.block _ (Array.getElem?_eq_some_iff.1 HT.out).1).trans HT.out
    have gn := (hb.block _ (Array.getElem?_eq_some_iff.1 GN).1).trans GN
    have n0 : wk.cell? ⟨w.heap.size, 0, none⟩ = some (.int .i64 24) := cell_of_row _ _ 0 _ _ _ gn
    have n1 : wk.cell? ⟨w.heap.size, 1, none⟩ = some (.int .i64 36) := cell_of_row _ _ 1 _ _ _ gn
    have HS := Lib.hid SK
    have HT2 := Lib.hid hT2
    clear hb q1 q2 q3 q4 q5 q6 q7 q8 q9 F hT2 gn GN SK HT t0 t1
    go_wp2_with fail
    exact HK.out _ _ _ _ _ _ _ _ _ _ _ _ _ _ _ _ _ _ _ _ _ _ _ _ _ _ _ ⟨by omega, HS.out, HT2.out⟩ (by omega)
  · have HC := Lib.hid (fun V => planSpan_any 5 3 1 6 5 4 (3) V (by omega) (by omega) (by omega) (by omega) (by omega) (by omega) (by omega))
    rw [show pnF 5 3 1 6 5 4 (3) = 36 by decide] at HC
    rw [show pnT 5 3 1 6 5 4 (3) = 48 by decide] at HC
    have t0 : w.cell? ⟨tb, 6, none⟩ = some (.int .i64 36) := cell_of_row _ _ 6 _ _ _ hT
    have t1 : w.cell? ⟨tb, 7, none⟩ = some (.int .i64 48) := cell_of_row _ _ 7 _ _ _ hT
    have SB := GS3.later (w0 := w0) (B := w0.heap.size) ⟨q1, q2, q3, q4, q5, q6, q7, q8, q9, F⟩ (below1 w (.cells #[.int .i64 36, .int .i64 48] 25))
    have hT1 := ((below1 w (.cells #[.int .i64 36, .int .i64 48] 25)).block _ (Array.getElem?_eq_some_iff.1 hT).1).trans hT
    have GN := heap_alloc_new w (.cells #[.int .i64 36, .int .i64 48] 25)
    have HT := Lib.hid hT1
    clear q1 q2 q3 q4 q5 q6 q7 q8 q9 F hT hT1 HX
    obtain ⟨q1, q2, q3, q4, q5, q6, q7, q8, q9, F⟩ := SB
    go_wp2_with fail
    (with_reducible refine (HC.out _).mono ?_); rintro e wk ⟨rfl, hb⟩
    have SK := GS3.later (w0 := w0) (B := w0.heap.size) ⟨q1, q2, q3, q4, q5, q6, q7, q8, q9, F⟩ hb
    have hT2 := (hb.block _ (Array.getElem?_eq_some_iff.1 HT.out).1).trans HT.out
    have gn := (hb.block _ (Array.getElem?_eq_some_iff.1 GN).1).trans GN
    have n0 : wk.cell? ⟨w.heap.size, 0, none⟩ = some (.int .i64 36) := cell_of_row _ _ 0 _ _ _ gn
    have n1 : wk.cell? ⟨w.heap.size, 1, none⟩ = some (.int .i64 48) := cell_of_row _ _ 1 _ _ _ gn
    have HS := Lib.hid SK
    have HT2 := Lib.hid hT2
    clear hb q1 q2 q3 q4 q5 q6 q7 q8 q9 F hT2 gn GN SK HT t0 t1
    go_wp2_with fail
    exact HK.out _ _ _ _ _ _ _ _ _ _ _ _ _ _ _ _ _ _ _ _ _ _ _ _ _ _ _ ⟨by omega, HS.out, HT2.out⟩ (by omega)
  · have Hin := Lib.hid (And.intro hk (And.intro (show GS3 w0 w0.heap.size gb (gb + 1) (gb + 1 + 1) 5 3 1 6 5 4 5 3 2 w from ⟨q1, q2, q3, q4, q5, q6, q7, q8, q9, F⟩) hT))
    clear HK
    go_wp2_with fail
    exact HX.out _ _ _ _ _ _ _ _ _ _ _ _ _ _ _ _ _ _ _ _ _ _ _ _ _ _ trivial
set_option maxRecDepth 100000 in
set_option maxHeartbeats 3200000 in
theorem pfA {w0 : World} {n : Int} {gb tb : Nat}  {w : World} (u1 u6 u7 u8 u9 u10 u11 u12 u13 u14 u15 u16 u17 u18 u19 u20 u21 u22 u23 u24 u25 u26 u27 u28 u29 u30 u31 u32 u33 u34 u35 u36 u37 u38 u39 u40 u41 u42 u43 u44 u45 u46 u47 u48 u49 u50 u51 u52 u53 u54 u55 u56 u60 u61 u62 u63 u64 u65 u66 u67 u68 u69 u70 u71 u72 u73 u74 u75 u76 u77 u78 u79 u80 u81 u82 u83 u84 u85 u86 u87 u88 u89 u90 u91 u92 u93 u94 u95 u96 u97 u98 u99 u100 u101 u102 u103 u104 u105 u106 u107 u108 u109 u110 u111 u112 u113 u114 u115 u116 u117 u118 u119 u120 u121 u122 u123 u124 u125 u126 u127 u128 u129 u130 u131 u132 u133 u134 u135 u136 u137 u138 u139 : Value) (Q : Exit → Act → World → Prop)  (hI : (0 ≤ 4 ∧ GS3 w0 w0.heap.size gb (gb + 1) (gb + 1 + 1) 5 3 1 6 5 4 5 3 2 w ∧ (World.heap w)[tb]? = some (.cells rowF 25 (0, 0))))
    (hX : ∀ (v6 v7 v8 v9 v60 v61 v62 v63 v64 v65 v66 v67 v68 v69 v70 v71 v72 v73 v74 v75 v76 v77 v78 v79 v80 v81 : Value) (k : Nat) (V : World), (k ≤ 4 ∧ GS3 w0 w0.heap.size gb (gb + 1) (gb + 1 + 1) 5 3 1 6 5 4 5 3 2 V ∧ (World.heap V)[tb]? = some (.cells rowF 25 (0, 0))) → (True) → Q (.exit 0) ⟨List.toArray ((.int .i64 n) :: u1 :: (.bool false) :: (.pointer (some ⟨gb, 0, none⟩)) :: (.pointer (some ⟨gb + 1, 0, none⟩)) :: (.pointer (some ⟨gb + 1 + 1, 0, none⟩)) :: v6 :: v7 :: v8 :: v9 :: u10 :: u11 :: u12 :: u13 :: u14 :: u15 :: u16 :: u17 :: u18 :: u19 :: u20 :: u21 :: u22 :: u23 :: u24 :: u25 :: u26 :: u27 :: u28 :: u29 :: u30 :: u31 :: u32 :: u33 :: u34 :: u35 :: u36 :: u37 :: u38 :: u39 :: u40 :: u41 :: u42 :: u43 :: u44 :: u45 :: u46 :: u47 :: u48 :: u49 :: u50 :: u51 :: u52 :: u53 :: u54 :: u55 :: u56 :: (.slice (some ⟨tb, 0, none⟩) 4 4) :: (.int .i64 4) :: (.int .i64 ((k : Nat) : Int)) :: v60 :: v61 :: v62 :: v63 :: v64 :: v65 :: v66 :: v67 :: v68 :: v69 :: v70 :: v71 :: v72 :: v73 :: v74 :: v75 :: v76 :: v77 :: v78 :: v79 :: v80 :: v81 :: u82 :: u83 :: u84 :: u85 :: u86 :: u87 :: u88 :: u89 :: u90 :: u91 :: u92 :: u93 :: u94 :: u95 :: u96 :: u97 :: u98 :: u99 :: u100 :: u101 :: u102 :: u103 :: u104 :: u105 :: u106 :: u107 :: u108 :: u109 :: u110 :: u111 :: u112 :: u113 :: u114 :: u115 :: u116 :: u117 :: u118 :: u119 :: u120 :: u121 :: u122 :: u123 :: u124 :: u125 :: u126 :: u127 :: u128 :: u129 :: u130 :: u131 :: u132 :: u133 :: u134 :: u135 :: u136 :: u137 :: u138 :: u139 :: []), []⟩ V) :
    Code.wp Try.prog (.loop (sub [1, 1, 1, 1, 0, 1, 0, 0] codePF)) Q ⟨List.toArray ((.int .i64 n) :: u1 :: (.bool false) :: (.pointer (some ⟨gb, 0, none⟩)) :: (.pointer (some ⟨gb + 1, 0, none⟩)) :: (.pointer (some ⟨gb + 1 + 1, 0, none⟩)) :: u6 :: u7 :: u8 :: u9 :: u10 :: u11 :: u12 :: u13 :: u14 :: u15 :: u16 :: u17 :: u18 :: u19 :: u20 :: u21 :: u22 :: u23 :: u24 :: u25 :: u26 :: u27 :: u28 :: u29 :: u30 :: u31 :: u32 :: u33 :: u34 :: u35 :: u36 :: u37 :: u38 :: u39 :: u40 :: u41 :: u42 :: u43 :: u44 :: u45 :: u46 :: u47 :: u48 :: u49 :: u50 :: u51 :: u52 :: u53 :: u54 :: u55 :: u56 :: (.slice (some ⟨tb, 0, none⟩) 4 4) :: (.int .i64 4) :: (.int .i64 ((0 : Nat) : Int)) :: u60 :: u61 :: u62 :: u63 :: u64 :: u65 :: u66 :: u67 :: u68 :: u69 :: u70 :: u71 :: u72 :: u73 :: u74 :: u75 :: u76 :: u77 :: u78 :: u79 :: u80 :: u81 :: u82 :: u83 :: u84 :: u85 :: u86 :: u87 :: u88 :: u89 :: u90 :: u91 :: u92 :: u93 :: u94 :: u95 :: u96 :: u97 :: u98 :: u99 :: u100 :: u101 :: u102 :: u103 :: u104 :: u105 :: u106 :: u107 :: u108 :: u109 :: u110 :: u111 :: u112 :: u113 :: u114 :: u115 :: u116 :: u117 :: u118 :: u119 :: u120 :: u121 :: u122 :: u123 :: u124 :: u125 :: u126 :: u127 :: u128 :: u129 :: u130 :: u131 :: u132 :: u133 :: u134 :: u135 :: u136 :: u137 :: u138 :: u139 :: []), []⟩ w := by
  refine wp_loop_ghost (fun gk a V => ∀ C : Prop, (∀ (u6 u7 u8 u9 u60 u61 u62 u63 u64 u65 u66 u67 u68 u69 u70 u71 u72 u73 u74 u75 u76 u77 u78 u79 u80 u81 : Value) (k : Nat), gk = 4 - k → (k ≤ 4 ∧ GS3 w0 w0.heap.size gb (gb + 1) (gb + 1 + 1) 5 3 1 6 5 4 5 3 2 V ∧ (World.heap V)[tb]? = some (.cells rowF 25 (0, 0))) → a = ⟨List.toArray ((.int .i64 n) :: u1 :: (.bool false) :: (.pointer (some ⟨gb, 0, none⟩)) :: (.pointer (some ⟨gb + 1, 0, none⟩)) :: (.pointer (some ⟨gb + 1 + 1, 0, none⟩)) :: u6 :: u7 :: u8 :: u9 :: u10 :: u11 :: u12 :: u13 :: u14 :: u15 :: u16 :: u17 :: u18 :: u19 :: u20 :: u21 :: u22 :: u23 :: u24 :: u25 :: u26 :: u27 :: u28 :: u29 :: u30 :: u31 :: u32 :: u33 :: u34 :: u35 :: u36 :: u37 :: u38 :: u39 :: u40 :: u41 :: u42 :: u43 :: u44 :: u45 :: u46 :: u47 :: u48 :: u49 :: u50 :: u51 :: u52 :: u53 :: u54 :: u55 :: u56 :: (.slice (some ⟨tb, 0, none⟩) 4 4) :: (.int .i64 4) :: (.int .i64 ((k : Nat) : Int)) :: u60 :: u61 :: u62 :: u63 :: u64 :: u65 :: u66 :: u67 :: u68 :: u69 :: u70 :: u71 :: u72 :: u73 :: u74 :: u75 :: u76 :: u77 :: u78 :: u79 :: u80 :: u81 :: u82 :: u83 :: u84 :: u85 :: u86 :: u87 :: u88 :: u89 :: u90 :: u91 :: u92 :: u93 :: u94 :: u95 :: u96 :: u97 :: u98 :: u99 :: u100 :: u101 :: u102 :: u103 :: u104 :: u105 :: u106 :: u107 :: u108 :: u109 :: u110 :: u111 :: u112 :: u113 :: u114 :: u115 :: u116 :: u117 :: u118 :: u119 :: u120 :: u121 :: u122 :: u123 :: u124 :: u125 :: u126 :: u127 :: u128 :: u129 :: u130 :: u131 :: u132 :: u133 :: u134 :: u135 :: u136 :: u137 :: u138 :: u139 :: []), []⟩ → C) → C) (4 - 0) ?_ ?_
  · intro C hC
    exact hC _ _ _ _ _ _ _ _ _ _ _ _ _ _ _ _ _ _ _ _ _ _ _ _ _ _ (0) rfl hI rfl
  · intro gk a V hI'
    refine hI' _ ?_
    intro u6 u7 u8 u9 u60 u61 u62 u63 u64 u65 u66 u67 u68 u69 u70 u71 u72 u73 u74 u75 u76 u77 u78 u79 u80 u81 k hk hinv ha
    subst ha
    subst hk
    refine pfAb _ _ _ _ _ _ _ _ _ _ _ _ _ _ _ _ _ _ _ _ _ _ _ _ _ _ _ _ _ _ _ _ _ _ _ _ _ _ _ _ _ _ _ _ _ _ _ _ _ _ _ _ _ _ _ _ _ _ _ _ _ _ _ _ _ _ _ _ _ _ _ _ _ _ _ _ _ _ _ _ _ _ _ _ _ _ _ _ _ _ _ _ _ _ _ _ _ _ _ _ _ _ _ _ _ _ _ _ _ _ _ _ _ _ _ _ _ _ _ _ _ _ _ _ _ _ _ _ _ _ _ _ _ _  hinv (fun v6 v7 v8 v9 v60 v61 v62 v63 v64 v65 v66 v67 v68 v69 v70 v71 v72 v73 v74 v75 v76 v77 v78 v79 v80 v81  V2 h2 hm => ?_) (fun v6 v7 v8 v9 v60 v61 v62 v63 v64 v65 v66 v67 v68 v69 v70 v71 v72 v73 v74 v75 v76 v77 v78 v79 v80 v81 hx => hX v6 v7 v8 v9 v60 v61 v62 v63 v64 v65 v66 v67 v68 v69 v70 v71 v72 v73 v74 v75 v76 v77 v78 v79 v80 v81 k V hinv hx)
    refine ⟨_, hm, fun C hC => ?_⟩
    exact hC v6 v7 v8 v9 v60 v61 v62 v63 v64 v65 v66 v67 v68 v69 v70 v71 v72 v73 v74 v75 v76 v77 v78 v79 v80 v81 ((k + 1)) rfl h2 rfl
set_option maxRecDepth 100000 in
set_option maxHeartbeats 3200000 in
theorem pfBb {w0 : World} {n : Int} {gb tb : Nat} {k : Nat} {w : World} (u1 u6 u7 u8 u9 u10 u11 u12 u13 u14 u15 u16 u17 u18 u19 u20 u21 u22 u23 u24 u25 u26 u27 u28 u29 u30 u31 u32 u33 u34 u35 u36 u37 u38 u39 u40 u41 u42 u43 u44 u45 u46 u47 u48 u49 u50 u51 u52 u53 u54 u55 u56 u57 u58 u59 u60 u61 u62 u63 u64 u65 u66 u67 u68 u69 u70 u71 u72 u73 u74 u75 u76 u77 u78 u79 u80 u81 u85 u86 u87 u88 u89 u90 u91 u92 u93 u94 u95 u96 u97 u98 u99 u100 u101 u102 u103 u104 u105 u106 u107 u108 u109 u110 u111 u112 u113 u114 u115 u116 u117 u118 u119 u120 u121 u122 u123 u124 u125 u126 u127 u128 u129 u130 u131 u132 u133 u134 u135 u136 u137 u138 u139 : Value) (K : Act → World → Prop) (Q0 : Exit → Act → World → Prop)  (hI : (k ≤ 6 ∧ GS3 w0 w0.heap.size gb (gb + 1) (gb + 1 + 1) 5 3 1 6 5 4 5 3 2 w ∧ (World.heap w)[tb]? = some (.cells rowG 3 (0, 0))))
    (hK : ∀ (v10 v11 v85 v86 v87 v88 v89 v90 v91 v92 v93 v94 v95 : Value)  (V : World), ((k + 1) ≤ 6 ∧ GS3 w0 w0.heap.size gb (gb + 1) (gb + 1 + 1) 5 3 1 6 5 4 5 3 2 V ∧ (World.heap V)[tb]? = some (.cells rowG 3 (0, 0))) → 6 - (k + 1) < 6 - k → K ⟨List.toArray ((.int .i64 n) :: u1 :: (.bool false) :: (.pointer (some ⟨gb, 0, none⟩)) :: (.pointer (some ⟨gb + 1, 0, none⟩)) :: (.pointer (some ⟨gb + 1 + 1, 0, none⟩)) :: u6 :: u7 :: u8 :: u9 :: v10 :: v11 :: u12 :: u13 :: u14 :: u15 :: u16 :: u17 :: u18 :: u19 :: u20 :: u21 :: u22 :: u23 :: u24 :: u25 :: u26 :: u27 :: u28 :: u29 :: u30 :: u31 :: u32 :: u33 :: u34 :: u35 :: u36 :: u37 :: u38 :: u39 :: u40 :: u41 :: u42 :: u43 :: u44 :: u45 :: u46 :: u47 :: u48 :: u49 :: u50 :: u51 :: u52 :: u53 :: u54 :: u55 :: u56 :: u57 :: u58 :: u59 :: u60 :: u61 :: u62 :: u63 :: u64 :: u65 :: u66 :: u67 :: u68 :: u69 :: u70 :: u71 :: u72 :: u73 :: u74 :: u75 :: u76 :: u77 :: u78 :: u79 :: u80 :: u81 :: (.slice (some ⟨tb, 0, none⟩) 6 6) :: (.int .i64 6) :: (.int .i64 (((k + 1) : Nat) : Int)) :: v85 :: v86 :: v87 :: v88 :: v89 :: v90 :: v91 :: v92 :: v93 :: v94 :: v95 :: u96 :: u97 :: u98 :: u99 :: u100 :: u101 :: u102 :: u103 :: u104 :: u105 :: u106 :: u107 :: u108 :: u109 :: u110 :: u111 :: u112 :: u113 :: u114 :: u115 :: u116 :: u117 :: u118 :: u119 :: u120 :: u121 :: u122 :: u123 :: u124 :: u125 :: u126 :: u127 :: u128 :: u129 :: u130 :: u131 :: u132 :: u133 :: u134 :: u135 :: u136 :: u137 :: u138 :: u139 :: []), []⟩ V)
    (hX : ∀ (v10 v11 v85 v86 v87 v88 v89 v90 v91 v92 v93 v94 v95 : Value), (True) → Q0 (.exit 2) ⟨List.toArray ((.int .i64 n) :: u1 :: (.bool false) :: (.pointer (some ⟨gb, 0, none⟩)) :: (.pointer (some ⟨gb + 1, 0, none⟩)) :: (.pointer (some ⟨gb + 1 + 1, 0, none⟩)) :: u6 :: u7 :: u8 :: u9 :: v10 :: v11 :: u12 :: u13 :: u14 :: u15 :: u16 :: u17 :: u18 :: u19 :: u20 :: u21 :: u22 :: u23 :: u24 :: u25 :: u26 :: u27 :: u28 :: u29 :: u30 :: u31 :: u32 :: u33 :: u34 :: u35 :: u36 :: u37 :: u38 :: u39 :: u40 :: u41 :: u42 :: u43 :: u44 :: u45 :: u46 :: u47 :: u48 :: u49 :: u50 :: u51 :: u52 :: u53 :: u54 :: u55 :: u56 :: u57 :: u58 :: u59 :: u60 :: u61 :: u62 :: u63 :: u64 :: u65 :: u66 :: u67 :: u68 :: u69 :: u70 :: u71 :: u72 :: u73 :: u74 :: u75 :: u76 :: u77 :: u78 :: u79 :: u80 :: u81 :: (.slice (some ⟨tb, 0, none⟩) 6 6) :: (.int .i64 6) :: (.int .i64 ((k : Nat) : Int)) :: v85 :: v86 :: v87 :: v88 :: v89 :: v90 :: v91 :: v92 :: v93 :: v94 :: v95 :: u96 :: u97 :: u98 :: u99 :: u100 :: u101 :: u102 :: u103 :: u104 :: u105 :: u106 :: u107 :: u108 :: u109 :: u110 :: u111 :: u112 :: u113 :: u114 :: u115 :: u116 :: u117 :: u118 :: u119 :: u120 :: u121 :: u122 :: u123 :: u124 :: u125 :: u126 :: u127 :: u128 :: u129 :: u130 :: u131 :: u132 :: u133 :: u134 :: u135 :: u136 :: u137 :: u138 :: u139 :: []), []⟩ w) :
    Code.wp Try.prog (sub [1, 1, 1, 1, 1, 0, 1, 0, 0] codePF) (Exit.then K Q0) ⟨List.toArray ((.int .i64 n) :: u1 :: (.bool false) :: (.pointer (some ⟨gb, 0, none⟩)) :: (.pointer (some ⟨gb + 1, 0, none⟩)) :: (.pointer (some ⟨gb + 1 + 1, 0, none⟩)) :: u6 :: u7 :: u8 :: u9 :: u10 :: u11 :: u12 :: u13 :: u14 :: u15 :: u16 :: u17 :: u18 :: u19 :: u20 :: u21 :: u22 :: u23 :: u24 :: u25 :: u26 :: u27 :: u28 :: u29 :: u30 :: u31 :: u32 :: u33 :: u34 :: u35 :: u36 :: u37 :: u38 :: u39 :: u40 :: u41 :: u42 :: u43 :: u44 :: u45 :: u46 :: u47 :: u48 :: u49 :: u50 :: u51 :: u52 :: u53 :: u54 :: u55 :: u56 :: u57 :: u58 :: u59 :: u60 :: u61 :: u62 :: u63 :: u64 :: u65 :: u66 :: u67 :: u68 :: u69 :: u70 :: u71 :: u72 :: u73 :: u74 :: u75 :: u76 :: u77 :: u78 :: u79 :: u80 :: u81 :: (.slice (some ⟨tb, 0, none⟩) 6 6) :: (.int .i64 6) :: (.int .i64 ((k : Nat) : Int)) :: u85 :: u86 :: u87 :: u88 :: u89 :: u90 :: u91 :: u92 :: u93 :: u94 :: u95 :: u96 :: u97 :: u98 :: u99 :: u100 :: u101 :: u102 :: u103 :: u104 :: u105 :: u106 :: u107 :: u108 :: u109 :: u110 :: u111 :: u112 :: u113 :: u114 :: u115 :: u116 :: u117 :: u118 :: u119 :: u120 :: u121 :: u122 :: u123 :: u124 :: u125 :: u126 :: u127 :: u128 :: u129 :: u130 :: u131 :: u132 :: u133 :: u134 :: u135 :: u136 :: u137 :: u138 :: u139 :: []), []⟩ w := by
  have HK := Lib.hid hK
  have HX := Lib.hid hX
  clear hK hX
  conv => arg 2; whnf
  obtain ⟨hk, hS, hT⟩ := hI
  obtain ⟨q1, q2, q3, q4, q5, q6, q7, q8, q9, F⟩ := hS
  have hcs : k = 0 ∨ k = 1 ∨ k = 2 ∨ k = 3 ∨ k = 4 ∨ k = 5 ∨ k = 6 := by omega
  rcases hcs with rfl | rfl | rfl | rfl | rfl | rfl | rfl
  · have HC := Lib.hid (fun V => planCursor_any 5 3 1 6 5 4 (0) V (by omega) (by omega) (by omega) (by omega) (by omega) (by omega) (by omega))
    rw [show pnC 5 3 1 6 5 4 (0) = 0 by decide] at HC
    have t0 : w.cell? ⟨tb, 0, none⟩ = some (.int .i64 0) := cell_of_row _ _ 0 _ _ _ hT
    clear HX
    go_wp2_with fail
    (with_reducible refine (HC.out _).mono ?_); rintro e wk ⟨rfl, hb⟩
    have SK := GS3.later (w0 := w0) (B := w0.heap.size) ⟨q1, q2, q3, q4, q5, q6, q7, q8, q9, F⟩ hb
    have hT2 := (hb.block _ (Array.getElem?_eq_some_iff.1 hT).1).trans hT
    have HS := Lib.hid SK
    have HT2 := Lib.hid hT2
    clear hb q1 q2 q3 q4 q5 q6 q7 q8 q9 F hT2 SK hT t0
    go_wp2_with fail
    exact HK.out _ _ _ _ _ _ _ _ _ _ _ _ _ _ ⟨by omega, HS.out, HT2.out⟩ (by omega)
  · have HC := Lib.hid (fun V => planCursor_any 5 3 1 6 5 4 (1) V (by omega) (by omega) (by omega) (by omega) (by omega) (by omega) (by omega))
    rw [show pnC 5 3 1 6 5 4 (1) = 12 by decide] at HC
    have t0 : w.cell? ⟨tb, 1, none⟩ = some (.int .i64 12) := cell_of_row _ _ 1 _ _ _ hT
    clear HX
    go_wp2_with fail
    (with_reducible refine (HC.out _).mono ?_); rintro e wk ⟨rfl, hb⟩
    have SK := GS3.later (w0 := w0) (B := w0.heap.size) ⟨q1, q2, q3, q4, q5, q6, q7, q8, q9, F⟩ hb
    have hT2 := (hb.block _ (Array.getElem?_eq_some_iff.1 hT).1).trans hT
    have HS := Lib.hid SK
    have HT2 := Lib.hid hT2
    clear hb q1 q2 q3 q4 q5 q6 q7 q8 q9 F hT2 SK hT t0
    go_wp2_with fail
    exact HK.out _ _ _ _ _ _ _ _ _ _ _ _ _ _ ⟨by omega, HS.out, HT2.out⟩ (by omega)
  · have HC := Lib.hid (fun V => planCursor_any 5 3 1 6 5 4 (2) V (by omega) (by omega) (by omega) (by omega) (by omega) (by omega) (by omega))
    rw [show pnC 5 3 1 6 5 4 (2) = 24 by decide] at HC
    have t0 : w.cell? ⟨tb, 2, none⟩ = some (.int .i64 24) := cell_of_row _ _ 2 _ _ _ hT
    clear HX
    go_wp2_with fail
    (with_reducible refine (HC.out _).mono ?_); rintro e wk ⟨rfl, hb⟩
    have SK := GS3.later (w0 := w0) (B := w0.heap.size) ⟨q1, q2, q3, q4, q5, q6, q7, q8, q9, F⟩ hb
    have hT2 := (hb.block _ (Array.getElem?_eq_some_iff.1 hT).1).trans hT
    have HS := Lib.hid SK
    have HT2 := Lib.hid hT2
    clear hb q1 q2 q3 q4 q5 q6 q7 q8 q9 F hT2 SK hT t0
    go_wp2_with fail
    exact HK.out _ _ _ _ _ _ _ _ _ _ _ _ _ _ ⟨by omega, HS.out, HT2.out⟩ (by omega)
  · have HC := Lib.hid (fun V => planCursor_any 5 3 1 6 5 4 (3) V (by omega) (by omega) (by omega) (by omega) (by omega) (by omega) (by omega))
    rw [show pnC 5 3 1 6 5 4 (3) = 32 by decide] at HC
    have t0 : w.cell? ⟨tb, 3, none⟩ = some (.int .i64 32) := cell_of_row _ _ 3 _ _ _ hT
    clear HX
    go_wp2_with fail
    (with_reducible refine (HC.out _).mono ?_); rintro e wk ⟨rfl, hb⟩
    have SK := GS3.later (w0 := w0) (B := w0.heap.size) ⟨q1, q2, q3, q4, q5, q6, q7, q8, q9, F⟩ hb
    have hT2 := (hb.block _ (Array.getElem?_eq_some_iff.1 hT).1).trans hT
    have HS := Lib.hid SK
    have HT2 := Lib.hid hT2
    clear hb q1 q2 q3 q4 q5 q6 q7 q8 q9 F hT2 SK hT t0
    go_wp2_with fail
    exact HK.out _ _ _ _ _ _ _ _ _ _ _ _ _ _ ⟨by omega, HS.out, HT2.out⟩ (by omega)
  · have HC := Lib.hid (fun V => planCursor_any 5 3 1 6 5 4 (4) V (by omega) (by omega) (by omega) (by omega) (by omega) (by omega) (by omega))
    rw [show pnC 5 3 1 6 5 4 (4) = 32 by decide] at HC
    have t0 : w.cell? ⟨tb, 4, none⟩ = some (.int .i64 32) := cell_of_row _ _ 4 _ _ _ hT
    clear HX
    go_wp2_with fail
    (with_reducible refine (HC.out _).mono ?_); rintro e wk ⟨rfl, hb⟩
    have SK := GS3.later (w0 := w0) (B := w0.heap.size) ⟨q1, q2, q3, q4, q5, q6, q7, q8, q9, F⟩ hb
    have hT2 := (hb.block _ (Array.getElem?_eq_some_iff.1 hT).1).trans hT
    have HS := Lib.hid SK
    have HT2 := Lib.hid hT2
    clear hb q1 q2 q3 q4 q5 q6 q7 q8 q9 F hT2 SK hT t0
    go_wp2_with fail
    exact HK.out _ _ _ _ _ _ _ _ _ _ _ _ _ _ ⟨by omega, HS.out, HT2.out⟩ (by omega)
  · have HC := Lib.hid (fun V => planCursor_any 5 3 1 6 5 4 (5) V (by omega) (by omega) (by omega) (by omega) (by omega) (by omega) (by omega))
    rw [show pnC 5 3 1 6 5 4 (5) = 0 by decide] at HC
    have t0 : w.cell? ⟨tb, 5, none⟩ = some (.int .i64 0) := cell_of_row _ _ 5 _ _ _ hT
    clear HX
    go_wp2_with fail
    (with_reducible refine (HC.out _).mono ?_); rintro e wk ⟨rfl, hb⟩
    have SK := GS3.later (w0 := w0) (B := w0.heap.size) ⟨q1, q2, q3, q4, q5, q6, q7, q8, q9, F⟩ hb
    have hT2 := (hb.block _ (Array.getElem?_eq_some_iff.1 hT).1).trans hT
    have HS := Lib.hid SK
    have HT2 := Lib.hid hT2
    clear hb q1 q2 q3 q4 q5 q6 q7 q8 q9 F hT2 SK hT t0
    go_wp2_with fail
    exact HK.out _ _ _ _ _ _ _ _ _ _ _ _ _ _ ⟨by omega, HS.out, HT2.out⟩ (by omega)
  · have Hin := Lib.hid (And.intro hk (And.intro (show GS3 w0 w0.heap.size gb (gb + 1) (gb + 1 + 1) 5 3 1 6 5 4 5 3 2 w from ⟨q1, q2, q3, q4, q5, q6, q7, q8, q9, F⟩) hT))
    clear HK
    go_wp2_with fail
    exact HX.out _ _ _ _ _ _ _ _ _ _ _ _ _ trivial
set_option maxRecDepth 100000 in
set_option maxHeartbeats 3200000 in
theorem pfB {w0 : World} {n : Int} {gb tb : Nat}  {w : World} (u1 u6 u7 u8 u9 u10 u11 u12 u13 u14 u15 u16 u17 u18 u19 u20 u21 u22 u23 u24 u25 u26 u27 u28 u29 u30 u31 u32 u33 u34 u35 u36 u37 u38 u39 u40 u41 u42 u43 u44 u45 u46 u47 u48 u49 u50 u51 u52 u53 u54 u55 u56 u57 u58 u59 u60 u61 u62 u63 u64 u65 u66 u67 u68 u69 u70 u71 u72 u73 u74 u75 u76 u77 u78 u79 u80 u81 u85 u86 u87 u88 u89 u90 u91 u92 u93 u94 u95 u96 u97 u98 u99 u100 u101 u102 u103 u104 u105 u106 u107 u108 u109 u110 u111 u112 u113 u114 u115 u116 u117 u118 u119 u120 u121 u122 u123 u124 u125 u126 u127 u128 u129 u130 u131 u132 u133 u134 u135 u136 u137 u138 u139 : Value) (Q : Exit → Act → World → Prop)  (hI : (0 ≤ 6 ∧ GS3 w0 w0.heap.size gb (gb + 1) (gb + 1 + 1) 5 3 1 6 5 4 5 3 2 w ∧ (World.heap w)[tb]? = some (.cells rowG 3 (0, 0))))
    (hX : ∀ (v10 v11 v85 v86 v87 v88 v89 v90 v91 v92 v93 v94 v95 : Value) (k : Nat) (V : World), (k ≤ 6 ∧ GS3 w0 w0.heap.size gb (gb + 1) (gb + 1 + 1) 5 3 1 6 5 4 5 3 2 V ∧ (World.heap V)[tb]? = some (.cells rowG 3 (0, 0))) → (True) → Q (.exit 2) ⟨List.toArray ((.int .i64 n) :: u1 :: (.bool false) :: (.pointer (some ⟨gb, 0, none⟩)) :: (.pointer (some ⟨gb + 1, 0, none⟩)) :: (.pointer (some ⟨gb + 1 + 1, 0, none⟩)) :: u6 :: u7 :: u8 :: u9 :: v10 :: v11 :: u12 :: u13 :: u14 :: u15 :: u16 :: u17 :: u18 :: u19 :: u20 :: u21 :: u22 :: u23 :: u24 :: u25 :: u26 :: u27 :: u28 :: u29 :: u30 :: u31 :: u32 :: u33 :: u34 :: u35 :: u36 :: u37 :: u38 :: u39 :: u40 :: u41 :: u42 :: u43 :: u44 :: u45 :: u46 :: u47 :: u48 :: u49 :: u50 :: u51 :: u52 :: u53 :: u54 :: u55 :: u56 :: u57 :: u58 :: u59 :: u60 :: u61 :: u62 :: u63 :: u64 :: u65 :: u66 :: u67 :: u68 :: u69 :: u70 :: u71 :: u72 :: u73 :: u74 :: u75 :: u76 :: u77 :: u78 :: u79 :: u80 :: u81 :: (.slice (some ⟨tb, 0, none⟩) 6 6) :: (.int .i64 6) :: (.int .i64 ((k : Nat) : Int)) :: v85 :: v86 :: v87 :: v88 :: v89 :: v90 :: v91 :: v92 :: v93 :: v94 :: v95 :: u96 :: u97 :: u98 :: u99 :: u100 :: u101 :: u102 :: u103 :: u104 :: u105 :: u106 :: u107 :: u108 :: u109 :: u110 :: u111 :: u112 :: u113 :: u114 :: u115 :: u116 :: u117 :: u118 :: u119 :: u120 :: u121 :: u122 :: u123 :: u124 :: u125 :: u126 :: u127 :: u128 :: u129 :: u130 :: u131 :: u132 :: u133 :: u134 :: u135 :: u136 :: u137 :: u138 :: u139 :: []), []⟩ V) :
    Code.wp Try.prog (.loop (sub [1, 1, 1, 1, 1, 0, 1, 0, 0] codePF)) Q ⟨List.toArray ((.int .i64 n) :: u1 :: (.bool false) :: (.pointer (some ⟨gb, 0, none⟩)) :: (.pointer (some ⟨gb + 1, 0, none⟩)) :: (.pointer (some ⟨gb + 1 + 1, 0, none⟩)) :: u6 :: u7 :: u8 :: u9 :: u10 :: u11 :: u12 :: u13 :: u14 :: u15 :: u16 :: u17 :: u18 :: u19 :: u20 :: u21 :: u22 :: u23 :: u24 :: u25 :: u26 :: u27 :: u28 :: u29 :: u30 :: u31 :: u32 :: u33 :: u34 :: u35 :: u36 :: u37 :: u38 :: u39 :: u40 :: u41 :: u42 :: u43 :: u44 :: u45 :: u46 :: u47 :: u48 :: u49 :: u50 :: u51 :: u52 :: u53 :: u54 :: u55 :: u56 :: u57 :: u58 :: u59 :: u60 :: u61 :: u62 :: u63 :: u64 :: u65 :: u66 :: u67 :: u68 :: u69 :: u70 :: u71 :: u72 :: u73 :: u74 :: u75 :: u76 :: u77 :: u78 :: u79 :: u80 :: u81 :: (.slice (some ⟨tb, 0, none⟩) 6 6) :: (.int .i64 6) :: (.int .i64 ((0 : Nat) : Int)) :: u85 :: u86 :: u87 :: u88 :: u89 :: u90 :: u91 :: u92 :: u93 :: u94 :: u95 :: u96 :: u97 :: u98 :: u99 :: u100 :: u101 :: u102 :: u103 :: u104 :: u105 :: u106 :: u107 :: u108 :: u109 :: u110 :: u111 :: u112 :: u113 :: u114 :: u115 :: u116 :: u117 :: u118 :: u119 :: u120 :: u121 :: u122 :: u123 :: u124 :: u125 :: u126 :: u127 :: u128 :: u129 :: u130 :: u131 :: u132 :: u133 :: u134 :: u135 :: u136 :: u137 :: u138 :: u139 :: []), []⟩ w := by
  refine wp_loop_ghost (fun gk a V => ∀ C : Prop, (∀ (u10 u11 u85 u86 u87 u88 u89 u90 u91 u92 u93 u94 u95 : Value) (k : Nat), gk = 6 - k → (k ≤ 6 ∧ GS3 w0 w0.heap.size gb (gb + 1) (gb + 1 + 1) 5 3 1 6 5 4 5 3 2 V ∧ (World.heap V)[tb]? = some (.cells rowG 3 (0, 0))) → a = ⟨List.toArray ((.int .i64 n) :: u1 :: (.bool false) :: (.pointer (some ⟨gb, 0, none⟩)) :: (.pointer (some ⟨gb + 1, 0, none⟩)) :: (.pointer (some ⟨gb + 1 + 1, 0, none⟩)) :: u6 :: u7 :: u8 :: u9 :: u10 :: u11 :: u12 :: u13 :: u14 :: u15 :: u16 :: u17 :: u18 :: u19 :: u20 :: u21 :: u22 :: u23 :: u24 :: u25 :: u26 :: u27 :: u28 :: u29 :: u30 :: u31 :: u32 :: u33 :: u34 :: u35 :: u36 :: u37 :: u38 :: u39 :: u40 :: u41 :: u42 :: u43 :: u44 :: u45 :: u46 :: u47 :: u48 :: u49 :: u50 :: u51 :: u52 :: u53 :: u54 :: u55 :: u56 :: u57 :: u58 :: u59 :: u60 :: u61 :: u62 :: u63 :: u64 :: u65 :: u66 :: u67 :: u68 :: u69 :: u70 :: u71 :: u72 :: u73 :: u74 :: u75 :: u76 :: u77 :: u78 :: u79 :: u80 :: u81 :: (.slice (some ⟨tb, 0, none⟩) 6 6) :: (.int .i64 6) :: (.int .i64 ((k : Nat) : Int)) :: u85 :: u86 :: u87 :: u88 :: u89 :: u90 :: u91 :: u92 :: u93 :: u94 :: u95 :: u96 :: u97 :: u98 :: u99 :: u100 :: u101 :: u102 :: u103 :: u104 :: u105 :: u106 :: u107 :: u108 :: u109 :: u110 :: u111 :: u112 :: u113 :: u114 :: u115 :: u116 :: u117 :: u118 :: u119 :: u120 :: u121 :: u122 :: u123 :: u124 :: u125 :: u126 :: u127 :: u128 :: u129 :: u130 :: u131 :: u132 :: u133 :: u134 :: u135 :: u136 :: u137 :: u138 :: u139 :: []), []⟩ → C) → C) (6 - 0) ?_ ?_
  · intro C hC
    exact hC _ _ _ _ _ _ _ _ _ _ _ _ _ (0) rfl hI rfl
  · intro gk a V hI'
    refine hI' _ ?_
    intro u10 u11 u85 u86 u87 u88 u89 u90 u91 u92 u93 u94 u95 k hk hinv ha
    subst ha
    subst hk
    refine pfBb _ _ _ _ _ _ _ _ _ _ _ _ _ _ _ _ _ _ _ _ _ _ _ _ _ _ _ _ _ _ _ _ _ _ _ _ _ _ _ _ _ _ _ _ _ _ _ _ _ _ _ _ _ _ _ _ _ _ _ _ _ _ _ _ _ _ _ _ _ _ _ _ _ _ _ _ _ _ _ _ _ _ _ _ _ _ _ _ _ _ _ _ _ _ _ _ _ _ _ _ _ _ _ _ _ _ _ _ _ _ _ _ _ _ _ _ _ _ _ _ _ _ _ _ _ _ _ _ _ _ _ _ _ _  hinv (fun v10 v11 v85 v86 v87 v88 v89 v90 v91 v92 v93 v94 v95  V2 h2 hm => ?_) (fun v10 v11 v85 v86 v87 v88 v89 v90 v91 v92 v93 v94 v95 hx => hX v10 v11 v85 v86 v87 v88 v89 v90 v91 v92 v93 v94 v95 k V hinv hx)
    refine ⟨_, hm, fun C hC => ?_⟩
    exact hC v10 v11 v85 v86 v87 v88 v89 v90 v91 v92 v93 v94 v95 ((k + 1)) rfl h2 rfl
end Go.Proofs.Ytabeadbnoifedaa
