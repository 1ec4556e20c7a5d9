/- RecordDecodes: its loop; four sectors of zeros. -/
import Derived.Test.YtfgiomidlfoonaaDoorRaag
import Derived.Test.YtfgiomidlfoonaaDoorRaaj
import Derived.Test.YtfgiomidlfoonaaDoorRwMore
set_option linter.unusedVariables false
set_option linter.unusedSimpArgs false
namespace Go.Proofs.YtfgiomidlfoonaaDoor
open Go.RowKit

noncomputable def codeRD : Code := Tryd.f5.body.getD .skip
set_option maxRecDepth 100000 in
set_option maxHeartbeats 3200000 in
theorem rdRb {V0 : World} {A2 A3 : Option Addr} {n c2 c3 : Nat} {l : List It} {j : Nat} {w : World} (u0 u1 u2 u3 u4 u5 u6 u7 u8 u9 u10 u11 u12 u13 u15 u16 u17 u18 u19 u20 u22 u23 u24 u25 u26 u27 u28 u29 u30 u31 u32 u33 u34 u35 u36 u37 u38 u39 u40 u41 u42 u43 u44 u45 u46 u47 u48 u49 u50 u51 u52 u53 u54 u55 u56 u57 u58 u59 u60 u61 u62 u63 u64 u65 u66 u67 u68 u69 u70 u71 u72 u73 u74 u75 u76 u77 u78 u79 u80 u81 u82 u83 u84 u85 u86 u87 u88 u89 u90 u91 u92 u93 u94 u95 u96 u97 u98 u99 u100 u101 u102 u103 u104 u105 u106 u107 u108 u109 u110 u111 u112 u113 u114 u115 u116 u117 u118 u119 u120 u121 u122 u123 u124 u125 u126 u127 u128 u129 u130 u131 u132 u133 u134 u135 u136 u140 u141 u142 u143 u144 u145 u146 u147 u148 u149 u150 u151 u152 u153 u154 u155 u156 u157 u158 u159 u160 u161 u162 u163 u164 u165 u166 u167 u168 u169 u170 u171 u172 u173 u174 : Value) (K : Act → World → Prop) (Q0 : Exit → Act → World → Prop) (h2 : RdI V0 V0.heap.size A2 l) (h3 : RdI V0 V0.heap.size A3 l) (hn : l.length = n) (hI : (j ≤ n ∧ Below V0.heap.size V0 w))
    (hK : ∀ (v23 v24 v140 v141 v142 v143 v144 v145 v146 v147 v148 v149 v150 v151 v152 v153 v154 v155 v156 v157 v158 v159 v160 v161 v162 v163 v164 v165 v166 v167 v168 v169 v170 v171 v172 v173 : Value)  (V : World), ((j + 1) ≤ n ∧ Below V0.heap.size V0 V) → n - (j + 1) < n - j → K ⟨List.toArray (u0 :: u1 :: u2 :: u3 :: u4 :: u5 :: u6 :: u7 :: u8 :: u9 :: u10 :: u11 :: u12 :: u13 :: (.bool false) :: u15 :: u16 :: u17 :: u18 :: u19 :: u20 :: (.slice A2 n c2) :: u22 :: v23 :: v24 :: u25 :: u26 :: u27 :: u28 :: u29 :: u30 :: u31 :: u32 :: u33 :: u34 :: u35 :: u36 :: u37 :: u38 :: u39 :: u40 :: u41 :: u42 :: u43 :: u44 :: u45 :: u46 :: u47 :: u48 :: u49 :: u50 :: u51 :: u52 :: u53 :: u54 :: u55 :: u56 :: u57 :: u58 :: u59 :: u60 :: u61 :: u62 :: u63 :: u64 :: u65 :: u66 :: u67 :: u68 :: u69 :: u70 :: u71 :: u72 :: u73 :: u74 :: u75 :: u76 :: u77 :: u78 :: u79 :: u80 :: u81 :: u82 :: u83 :: u84 :: u85 :: u86 :: u87 :: u88 :: u89 :: u90 :: u91 :: u92 :: u93 :: u94 :: u95 :: u96 :: u97 :: u98 :: u99 :: u100 :: u101 :: u102 :: u103 :: u104 :: u105 :: u106 :: u107 :: u108 :: u109 :: u110 :: u111 :: u112 :: u113 :: u114 :: u115 :: u116 :: u117 :: u118 :: u119 :: u120 :: u121 :: u122 :: u123 :: u124 :: u125 :: u126 :: u127 :: u128 :: u129 :: u130 :: u131 :: u132 :: u133 :: u134 :: u135 :: u136 :: (.slice A3 n c3) :: (.int .i64 (n : Int)) :: (.int .i64 (((j + 1) : Nat) : Int)) :: v140 :: v141 :: v142 :: v143 :: v144 :: v145 :: v146 :: v147 :: v148 :: v149 :: v150 :: v151 :: v152 :: v153 :: v154 :: v155 :: v156 :: v157 :: v158 :: v159 :: v160 :: v161 :: v162 :: v163 :: v164 :: v165 :: v166 :: v167 :: v168 :: v169 :: v170 :: v171 :: v172 :: v173 :: u174 :: []), []⟩ V)
    (hX : ∀ (v23 v24 v140 v141 v142 v143 v144 v145 v146 v147 v148 v149 v150 v151 v152 v153 v154 v155 v156 v157 v158 v159 v160 v161 v162 v163 v164 v165 v166 v167 v168 v169 v170 v171 v172 v173 : Value), (True) → Q0 (.exit 1) ⟨List.toArray (u0 :: u1 :: u2 :: u3 :: u4 :: u5 :: u6 :: u7 :: u8 :: u9 :: u10 :: u11 :: u12 :: u13 :: (.bool false) :: u15 :: u16 :: u17 :: u18 :: u19 :: u20 :: (.slice A2 n c2) :: u22 :: v23 :: v24 :: u25 :: u26 :: u27 :: u28 :: u29 :: u30 :: u31 :: u32 :: u33 :: u34 :: u35 :: u36 :: u37 :: u38 :: u39 :: u40 :: u41 :: u42 :: u43 :: u44 :: u45 :: u46 :: u47 :: u48 :: u49 :: u50 :: u51 :: u52 :: u53 :: u54 :: u55 :: u56 :: u57 :: u58 :: u59 :: u60 :: u61 :: u62 :: u63 :: u64 :: u65 :: u66 :: u67 :: u68 :: u69 :: u70 :: u71 :: u72 :: u73 :: u74 :: u75 :: u76 :: u77 :: u78 :: u79 :: u80 :: u81 :: u82 :: u83 :: u84 :: u85 :: u86 :: u87 :: u88 :: u89 :: u90 :: u91 :: u92 :: u93 :: u94 :: u95 :: u96 :: u97 :: u98 :: u99 :: u100 :: u101 :: u102 :: u103 :: u104 :: u105 :: u106 :: u107 :: u108 :: u109 :: u110 :: u111 :: u112 :: u113 :: u114 :: u115 :: u116 :: u117 :: u118 :: u119 :: u120 :: u121 :: u122 :: u123 :: u124 :: u125 :: u126 :: u127 :: u128 :: u129 :: u130 :: u131 :: u132 :: u133 :: u134 :: u135 :: u136 :: (.slice A3 n c3) :: (.int .i64 (n : Int)) :: (.int .i64 ((j : Nat) : Int)) :: v140 :: v141 :: v142 :: v143 :: v144 :: v145 :: v146 :: v147 :: v148 :: v149 :: v150 :: v151 :: v152 :: v153 :: v154 :: v155 :: v156 :: v157 :: v158 :: v159 :: v160 :: v161 :: v162 :: v163 :: v164 :: v165 :: v166 :: v167 :: v168 :: v169 :: v170 :: v171 :: v172 :: v173 :: u174 :: []), []⟩ w) :
    Code.wp Tryd.prog (sub [1, 1, 1, 1, 1, 1, 1, 1, 1, 1, 0, 1, 0, 0] codeRD) (Exit.then K Q0) ⟨List.toArray (u0 :: u1 :: u2 :: u3 :: u4 :: u5 :: u6 :: u7 :: u8 :: u9 :: u10 :: u11 :: u12 :: u13 :: (.bool false) :: u15 :: u16 :: u17 :: u18 :: u19 :: u20 :: (.slice A2 n c2) :: u22 :: u23 :: u24 :: u25 :: u26 :: u27 :: u28 :: u29 :: u30 :: u31 :: u32 :: u33 :: u34 :: u35 :: u36 :: u37 :: u38 :: u39 :: u40 :: u41 :: u42 :: u43 :: u44 :: u45 :: u46 :: u47 :: u48 :: u49 :: u50 :: u51 :: u52 :: u53 :: u54 :: u55 :: u56 :: u57 :: u58 :: u59 :: u60 :: u61 :: u62 :: u63 :: u64 :: u65 :: u66 :: u67 :: u68 :: u69 :: u70 :: u71 :: u72 :: u73 :: u74 :: u75 :: u76 :: u77 :: u78 :: u79 :: u80 :: u81 :: u82 :: u83 :: u84 :: u85 :: u86 :: u87 :: u88 :: u89 :: u90 :: u91 :: u92 :: u93 :: u94 :: u95 :: u96 :: u97 :: u98 :: u99 :: u100 :: u101 :: u102 :: u103 :: u104 :: u105 :: u106 :: u107 :: u108 :: u109 :: u110 :: u111 :: u112 :: u113 :: u114 :: u115 :: u116 :: u117 :: u118 :: u119 :: u120 :: u121 :: u122 :: u123 :: u124 :: u125 :: u126 :: u127 :: u128 :: u129 :: u130 :: u131 :: u132 :: u133 :: u134 :: u135 :: u136 :: (.slice A3 n c3) :: (.int .i64 (n : Int)) :: (.int .i64 ((j : Nat) : Int)) :: u140 :: u141 :: u142 :: u143 :: u144 :: u145 :: u146 :: u147 :: u148 :: u149 :: u150 :: u151 :: u152 :: u153 :: u154 :: u155 :: u156 :: u157 :: u158 :: u159 :: u160 :: u161 :: u162 :: u163 :: u164 :: u165 :: u166 :: u167 :: u168 :: u169 :: u170 :: u171 :: u172 :: u173 :: u174 :: []), []⟩ w := by
  have HK := Lib.hid hK
  have HX := Lib.hid hX
  clear hK hX
  conv => arg 2; whnf
  obtain ⟨hj, hB⟩ := hI
  by_cases hlt : j < n
  · obtain ⟨g2, rfl, hg2, hc2⟩ := h2.2 (by omega)
    obtain ⟨D2, cd2, hrp2, hrd2⟩ := hc2 j (by omega)
    obtain ⟨g3, rfl, hg3, hc3⟩ := h3.2 (by omega)
    obtain ⟨D, cd, hrp, hrd⟩ := hc3 j (by omega)
    generalize itN l j = y at hrp hrd hrp2 hrd2
    have Hrp := Lib.hid (rangeAt_keep (w' := w) hrp fun k => hB.cell hg3)
    have B1 := hB.alloc hB.size (.cells #[.int .i64 y.d, .int .i64 y.a, .slice D y.b.length cd] 51)
    have HB1 := Lib.hid B1
    have c' := fun i => cell_of_row _ _ i _ _ _ (heap_alloc_new w (.cells #[.int .i64 y.d, .int .i64 y.a, .slice D y.b.length cd] 51))
    have hrp2' := rangeAt_keep (w' := w.alloc (.cells #[.int .i64 y.d, .int .i64 y.a, .slice D y.b.length cd] 51)) hrp2 fun k => B1.cell hg2
    have HD := Lib.hid (And.intro (show (w.alloc (.cells #[.int .i64 y.d, .int .i64 y.a, .slice D y.b.length cd] 51)).cell? ⟨g2, j * 3, none⟩ = some (.int .i64 y.d) from hrp2' 0 _ rfl) (And.intro (show (w.alloc (.cells #[.int .i64 y.d, .int .i64 y.a, .slice D y.b.length cd] 51)).cell? ⟨g2, j * 3 + 1, none⟩ = some (.int .i64 y.a) from hrp2' 1 _ rfl) (show (w.alloc (.cells #[.int .i64 y.d, .int .i64 y.a, .slice D y.b.length cd] 51)).cell? ⟨g2, j * 3 + 2, none⟩ = some (.slice D2 y.b.length cd2) from hrp2' 2 _ rfl)))
    have HE := Lib.hid (And.intro (c' 0) (And.intro (c' 1) (c' 2)))
    have CS := Lib.hid (fun k => Calls.quiet_of (same_any D D2 y.b.length y.b.length cd cd2 V0.heap.size y.b y.b ((w.alloc (.cells #[.int .i64 y.d, .int .i64 y.a, .slice D y.b.length cd] 51)).drewN k) rfl rfl (hrd.below (B1.trans (belowN _ _ k)) (Nat.le_refl _)) (hrd2.below (B1.trans (belowN _ _ k)) (Nat.le_refl _))))
    rw [decide_eq_true (rfl : y.b = y.b)] at CS
    generalize hW1 : w.alloc (.cells #[.int .i64 y.d, .int .i64 y.a, .slice D y.b.length cd] 51) = W1 at HB1 HD HE CS
    have k0 : (0 : Int) ≤ (j : Int) := by omega
    have k1 : (j : Int) < (n : Int) := by omega
    have k2 : (n : Int) ≤ 140737488355328 := by have := h2.1; omega
    have n1 : (y.d != y.d) = false := bne_self_eq_false _
    have n2 : (y.a != y.a) = false := bne_self_eq_false _
    clear h2 h3 hn hB hc2 hc3 hrp hrd hrp2 hrd2 B1 c' hrp2' HX
    go_wp2_with (
      ((with_reducible refine (id ?_ : wpList _ _ _ (⟨some 143, _, _, _, _, _⟩ :: _) _ _)); refine wpList_load_mid rfl 51 _ (by rfl) g3 (j * 3) (by rfl) [.int .i64 y.d, .int .i64 y.a, .slice D y.b.length cd] _ Hrp.out Tryd.underlying51 rfl (by kernel_rfl) ?_))
    try rw [hW1]
    obtain ⟨e0, e1, e2⟩ := HE.out
    obtain ⟨d0, d1, d2⟩ := HD.out
    clear hW1
    go_quiet ((go_at_call 10; exact CS.out _))
    go_wp2_with fail
    exact HK.out _ _ _ _ _ _ _ _ _ _ _ _ _ _ _ _ _ _ _ _ _ _ _ _ _ _ _ _ _ _ _ _ _ _ _ _ _ ⟨by omega, HB1.out.trans (belowN _ _ nq)⟩ (by omega)
  · have k1 : ¬ (j : Int) < (n : Int) := by omega
    clear HK h2 h3 hn hB
    go_wp2_with fail
    exact HX.out _ _ _ _ _ _ _ _ _ _ _ _ _ _ _ _ _ _ _ _ _ _ _ _ _ _ _ _ _ _ _ _ _ _ _ _ (by trivial)
set_option maxRecDepth 100000 in
set_option maxHeartbeats 3200000 in
theorem rdR {V0 : World} {A2 A3 : Option Addr} {n c2 c3 : Nat} {l : List It}  {w : World} (u0 u1 u2 u3 u4 u5 u6 u7 u8 u9 u10 u11 u12 u13 u15 u16 u17 u18 u19 u20 u22 u23 u24 u25 u26 u27 u28 u29 u30 u31 u32 u33 u34 u35 u36 u37 u38 u39 u40 u41 u42 u43 u44 u45 u46 u47 u48 u49 u50 u51 u52 u53 u54 u55 u56 u57 u58 u59 u60 u61 u62 u63 u64 u65 u66 u67 u68 u69 u70 u71 u72 u73 u74 u75 u76 u77 u78 u79 u80 u81 u82 u83 u84 u85 u86 u87 u88 u89 u90 u91 u92 u93 u94 u95 u96 u97 u98 u99 u100 u101 u102 u103 u104 u105 u106 u107 u108 u109 u110 u111 u112 u113 u114 u115 u116 u117 u118 u119 u120 u121 u122 u123 u124 u125 u126 u127 u128 u129 u130 u131 u132 u133 u134 u135 u136 u140 u141 u142 u143 u144 u145 u146 u147 u148 u149 u150 u151 u152 u153 u154 u155 u156 u157 u158 u159 u160 u161 u162 u163 u164 u165 u166 u167 u168 u169 u170 u171 u172 u173 u174 : Value) (Q : Exit → Act → World → Prop) (h2 : RdI V0 V0.heap.size A2 l) (h3 : RdI V0 V0.heap.size A3 l) (hn : l.length = n) (hI : (0 ≤ n ∧ Below V0.heap.size V0 w))
    (hX : ∀ (v23 v24 v140 v141 v142 v143 v144 v145 v146 v147 v148 v149 v150 v151 v152 v153 v154 v155 v156 v157 v158 v159 v160 v161 v162 v163 v164 v165 v166 v167 v168 v169 v170 v171 v172 v173 : Value) (j : Nat) (V : World), (j ≤ n ∧ Below V0.heap.size V0 V) → (True) → Q (.exit 1) ⟨List.toArray (u0 :: u1 :: u2 :: u3 :: u4 :: u5 :: u6 :: u7 :: u8 :: u9 :: u10 :: u11 :: u12 :: u13 :: (.bool false) :: u15 :: u16 :: u17 :: u18 :: u19 :: u20 :: (.slice A2 n c2) :: u22 :: v23 :: v24 :: u25 :: u26 :: u27 :: u28 :: u29 :: u30 :: u31 :: u32 :: u33 :: u34 :: u35 :: u36 :: u37 :: u38 :: u39 :: u40 :: u41 :: u42 :: u43 :: u44 :: u45 :: u46 :: u47 :: u48 :: u49 :: u50 :: u51 :: u52 :: u53 :: u54 :: u55 :: u56 :: u57 :: u58 :: u59 :: u60 :: u61 :: u62 :: u63 :: u64 :: u65 :: u66 :: u67 :: u68 :: u69 :: u70 :: u71 :: u72 :: u73 :: u74 :: u75 :: u76 :: u77 :: u78 :: u79 :: u80 :: u81 :: u82 :: u83 :: u84 :: u85 :: u86 :: u87 :: u88 :: u89 :: u90 :: u91 :: u92 :: u93 :: u94 :: u95 :: u96 :: u97 :: u98 :: u99 :: u100 :: u101 :: u102 :: u103 :: u104 :: u105 :: u106 :: u107 :: u108 :: u109 :: u110 :: u111 :: u112 :: u113 :: u114 :: u115 :: u116 :: u117 :: u118 :: u119 :: u120 :: u121 :: u122 :: u123 :: u124 :: u125 :: u126 :: u127 :: u128 :: u129 :: u130 :: u131 :: u132 :: u133 :: u134 :: u135 :: u136 :: (.slice A3 n c3) :: (.int .i64 (n : Int)) :: (.int .i64 ((j : Nat) : Int)) :: v140 :: v141 :: v142 :: v143 :: v144 :: v145 :: v146 :: v147 :: v148 :: v149 :: v150 :: v151 :: v152 :: v153 :: v154 :: v155 :: v156 :: v157 :: v158 :: v159 :: v160 :: v161 :: v162 :: v163 :: v164 :: v165 :: v166 :: v167 :: v168 :: v169 :: v170 :: v171 :: v172 :: v173 :: u174 :: []), []⟩ V) :
    Code.wp Tryd.prog (.loop (sub [1, 1, 1, 1, 1, 1, 1, 1, 1, 1, 0, 1, 0, 0] codeRD)) Q ⟨List.toArray (u0 :: u1 :: u2 :: u3 :: u4 :: u5 :: u6 :: u7 :: u8 :: u9 :: u10 :: u11 :: u12 :: u13 :: (.bool false) :: u15 :: u16 :: u17 :: u18 :: u19 :: u20 :: (.slice A2 n c2) :: u22 :: u23 :: u24 :: u25 :: u26 :: u27 :: u28 :: u29 :: u30 :: u31 :: u32 :: u33 :: u34 :: u35 :: u36 :: u37 :: u38 :: u39 :: u40 :: u41 :: u42 :: u43 :: u44 :: u45 :: u46 :: u47 :: u48 :: u49 :: u50 :: u51 :: u52 :: u53 :: u54 :: u55 :: u56 :: u57 :: u58 :: u59 :: u60 :: u61 :: u62 :: u63 :: u64 :: u65 :: u66 :: u67 :: u68 :: u69 :: u70 :: u71 :: u72 :: u73 :: u74 :: u75 :: u76 :: u77 :: u78 :: u79 :: u80 :: u81 :: u82 :: u83 :: u84 :: u85 :: u86 :: u87 :: u88 :: u89 :: u90 :: u91 :: u92 :: u93 :: u94 :: u95 :: u96 :: u97 :: u98 :: u99 :: u100 :: u101 :: u102 :: u103 :: u104 :: u105 :: u106 :: u107 :: u108 :: u109 :: u110 :: u111 :: u112 :: u113 :: u114 :: u115 :: u116 :: u117 :: u118 :: u119 :: u120 :: u121 :: u122 :: u123 :: u124 :: u125 :: u126 :: u127 :: u128 :: u129 :: u130 :: u131 :: u132 :: u133 :: u134 :: u135 :: u136 :: (.slice A3 n c3) :: (.int .i64 (n : Int)) :: (.int .i64 ((0 : Nat) : Int)) :: u140 :: u141 :: u142 :: u143 :: u144 :: u145 :: u146 :: u147 :: u148 :: u149 :: u150 :: u151 :: u152 :: u153 :: u154 :: u155 :: u156 :: u157 :: u158 :: u159 :: u160 :: u161 :: u162 :: u163 :: u164 :: u165 :: u166 :: u167 :: u168 :: u169 :: u170 :: u171 :: u172 :: u173 :: u174 :: []), []⟩ w := by
  refine wp_loop_ghost (fun gk a V => ∀ C : Prop, (∀ (u23 u24 u140 u141 u142 u143 u144 u145 u146 u147 u148 u149 u150 u151 u152 u153 u154 u155 u156 u157 u158 u159 u160 u161 u162 u163 u164 u165 u166 u167 u168 u169 u170 u171 u172 u173 : Value) (j : Nat), gk = n - j → (j ≤ n ∧ Below V0.heap.size V0 V) → a = ⟨List.toArray (u0 :: u1 :: u2 :: u3 :: u4 :: u5 :: u6 :: u7 :: u8 :: u9 :: u10 :: u11 :: u12 :: u13 :: (.bool false) :: u15 :: u16 :: u17 :: u18 :: u19 :: u20 :: (.slice A2 n c2) :: u22 :: u23 :: u24 :: u25 :: u26 :: u27 :: u28 :: u29 :: u30 :: u31 :: u32 :: u33 :: u34 :: u35 :: u36 :: u37 :: u38 :: u39 :: u40 :: u41 :: u42 :: u43 :: u44 :: u45 :: u46 :: u47 :: u48 :: u49 :: u50 :: u51 :: u52 :: u53 :: u54 :: u55 :: u56 :: u57 :: u58 :: u59 :: u60 :: u61 :: u62 :: u63 :: u64 :: u65 :: u66 :: u67 :: u68 :: u69 :: u70 :: u71 :: u72 :: u73 :: u74 :: u75 :: u76 :: u77 :: u78 :: u79 :: u80 :: u81 :: u82 :: u83 :: u84 :: u85 :: u86 :: u87 :: u88 :: u89 :: u90 :: u91 :: u92 :: u93 :: u94 :: u95 :: u96 :: u97 :: u98 :: u99 :: u100 :: u101 :: u102 :: u103 :: u104 :: u105 :: u106 :: u107 :: u108 :: u109 :: u110 :: u111 :: u112 :: u113 :: u114 :: u115 :: u116 :: u117 :: u118 :: u119 :: u120 :: u121 :: u122 :: u123 :: u124 :: u125 :: u126 :: u127 :: u128 :: u129 :: u130 :: u131 :: u132 :: u133 :: u134 :: u135 :: u136 :: (.slice A3 n c3) :: (.int .i64 (n : Int)) :: (.int .i64 ((j : Nat) : Int)) :: u140 :: u141 :: u142 :: u143 :: u144 :: u145 :: u146 :: u147 :: u148 :: u149 :: u150 :: u151 :: u152 :: u153 :: u154 :: u155 :: u156 :: u157 :: u158 :: u159 :: u160 :: u161 :: u162 :: u163 :: u164 :: u165 :: u166 :: u167 :: u168 :: u169 :: u170 :: u171 :: u172 :: u173 :: u174 :: []), []⟩ → C) → C) (n - 0) ?_ ?_
  · intro C hC
    exact hC _ _ _ _ _ _ _ _ _ _ _ _ _ _ _ _ _ _ _ _ _ _ _ _ _ _ _ _ _ _ _ _ _ _ _ _ (0) rfl hI rfl
  · intro gk a V hI'
    refine hI' _ ?_
    intro u23 u24 u140 u141 u142 u143 u144 u145 u146 u147 u148 u149 u150 u151 u152 u153 u154 u155 u156 u157 u158 u159 u160 u161 u162 u163 u164 u165 u166 u167 u168 u169 u170 u171 u172 u173 j hk hinv ha
    subst ha
    subst hk
    refine rdRb _ _ _ _ _ _ _ _ _ _ _ _ _ _ _ _ _ _ _ _ _ _ _ _ _ _ _ _ _ _ _ _ _ _ _ _ _ _ _ _ _ _ _ _ _ _ _ _ _ _ _ _ _ _ _ _ _ _ _ _ _ _ _ _ _ _ _ _ _ _ _ _ _ _ _ _ _ _ _ _ _ _ _ _ _ _ _ _ _ _ _ _ _ _ _ _ _ _ _ _ _ _ _ _ _ _ _ _ _ _ _ _ _ _ _ _ _ _ _ _ _ _ _ _ _ _ _ _ _ _ _ _ _ _ _ _ _ _ _ _ _ _ _ _ _ _ _ _ _ _ _ _ _ _ _ _ _ _ _ _ _ _ _ _ _ _ _ _ _ _ _ _ h2 h3 hn hinv (fun v23 v24 v140 v141 v142 v143 v144 v145 v146 v147 v148 v149 v150 v151 v152 v153 v154 v155 v156 v157 v158 v159 v160 v161 v162 v163 v164 v165 v166 v167 v168 v169 v170 v171 v172 v173  V2 h2 hm => ?_) (fun v23 v24 v140 v141 v142 v143 v144 v145 v146 v147 v148 v149 v150 v151 v152 v153 v154 v155 v156 v157 v158 v159 v160 v161 v162 v163 v164 v165 v166 v167 v168 v169 v170 v171 v172 v173 hx => hX v23 v24 v140 v141 v142 v143 v144 v145 v146 v147 v148 v149 v150 v151 v152 v153 v154 v155 v156 v157 v158 v159 v160 v161 v162 v163 v164 v165 v166 v167 v168 v169 v170 v171 v172 v173 j V hinv hx)
    refine ⟨_, hm, fun C hC => ?_⟩
    exact hC v23 v24 v140 v141 v142 v143 v144 v145 v146 v147 v148 v149 v150 v151 v152 v153 v154 v155 v156 v157 v158 v159 v160 v161 v162 v163 v164 v165 v166 v167 v168 v169 v170 v171 v172 v173 ((j + 1)) rfl h2 rfl
set_option maxRecDepth 100000 in
set_option maxHeartbeats 3200000 in
theorem rdZ  {w : World} (u0 u1 u2 u3 u4 u5 u6 u7 u8 u9 u10 u11 u12 u13 u14 u15 u16 u17 u18 u19 u20 u21 u22 u23 u24 u25 u26 u27 u28 u29 u30 u31 u32 u33 u34 u35 u36 u37 u38 u39 u40 u41 u42 u43 u44 u45 u46 u47 u48 u49 u50 u51 u52 u53 u54 u55 u56 u57 u58 u59 u60 u61 u62 u63 u64 u65 u66 u67 u68 u69 u70 u71 u72 u73 u74 u75 u76 u77 u78 u79 u80 u81 u82 u83 u84 u85 u86 u87 u88 u89 u90 u91 u92 u93 u94 u95 u96 u97 u98 u99 u100 u101 u102 u103 u104 u105 u106 u107 u108 u109 u110 u111 u112 u113 u114 u115 u116 u117 u118 u119 u120 u121 u122 u123 u124 u125 u126 u127 u128 u129 u130 u131 u132 u133 u134 u135 u136 u137 u138 u139 u140 u141 u142 u143 u144 u145 u146 u147 u148 u149 u150 u151 u152 u153 u154 u155 u156 u157 u158 u159 u160 u161 u162 u163 u164 u165 u166 u167 u168 u169 u170 u171 u172 u173 u174 : Value) (K : Act → World → Prop) (Q0 : Exit → Act → World → Prop) 
    (hK : ∀ (v41 v42 v43 v44 v45 : Value) (g : Nat) (bk cp : Nat → Nat) (V : World), Rw w.heap.size V g 4 4 bk cp [z32, z32, z32, z32] → Below w.heap.size w V → K ⟨List.toArray (u0 :: u1 :: u2 :: u3 :: u4 :: u5 :: u6 :: u7 :: u8 :: u9 :: u10 :: u11 :: u12 :: u13 :: u14 :: u15 :: (.slice (some ⟨g, 0, none⟩) 4 4) :: u17 :: u18 :: u19 :: u20 :: u21 :: u22 :: u23 :: u24 :: u25 :: u26 :: u27 :: u28 :: u29 :: u30 :: u31 :: u32 :: u33 :: u34 :: u35 :: u36 :: u37 :: u38 :: u39 :: u40 :: v41 :: v42 :: v43 :: v44 :: v45 :: u46 :: u47 :: u48 :: u49 :: u50 :: u51 :: u52 :: u53 :: u54 :: u55 :: u56 :: u57 :: u58 :: u59 :: u60 :: u61 :: u62 :: u63 :: u64 :: u65 :: u66 :: u67 :: u68 :: u69 :: u70 :: u71 :: u72 :: u73 :: u74 :: u75 :: u76 :: u77 :: u78 :: u79 :: u80 :: u81 :: u82 :: u83 :: u84 :: u85 :: u86 :: u87 :: u88 :: u89 :: u90 :: u91 :: u92 :: u93 :: u94 :: u95 :: u96 :: u97 :: u98 :: u99 :: u100 :: u101 :: u102 :: u103 :: u104 :: u105 :: u106 :: u107 :: u108 :: u109 :: u110 :: u111 :: u112 :: u113 :: u114 :: u115 :: u116 :: u117 :: u118 :: u119 :: u120 :: u121 :: u122 :: u123 :: u124 :: u125 :: u126 :: u127 :: u128 :: u129 :: u130 :: u131 :: u132 :: u133 :: u134 :: u135 :: u136 :: u137 :: u138 :: u139 :: u140 :: u141 :: u142 :: u143 :: u144 :: u145 :: u146 :: u147 :: u148 :: u149 :: u150 :: u151 :: u152 :: u153 :: u154 :: u155 :: u156 :: u157 :: u158 :: u159 :: u160 :: u161 :: u162 :: u163 :: u164 :: u165 :: u166 :: u167 :: u168 :: u169 :: u170 :: u171 :: u172 :: u173 :: u174 :: []), []⟩ V) :
    Code.wp Tryd.prog (sub [1, 1, 1, 0, 1, 0] codeRD) (Exit.then K Q0) ⟨List.toArray (u0 :: u1 :: u2 :: u3 :: u4 :: u5 :: u6 :: u7 :: u8 :: u9 :: u10 :: u11 :: u12 :: u13 :: u14 :: u15 :: u16 :: u17 :: u18 :: u19 :: u20 :: u21 :: u22 :: u23 :: u24 :: u25 :: u26 :: u27 :: u28 :: u29 :: u30 :: u31 :: u32 :: u33 :: u34 :: u35 :: u36 :: u37 :: u38 :: u39 :: u40 :: u41 :: u42 :: u43 :: u44 :: u45 :: u46 :: u47 :: u48 :: u49 :: u50 :: u51 :: u52 :: u53 :: u54 :: u55 :: u56 :: u57 :: u58 :: u59 :: u60 :: u61 :: u62 :: u63 :: u64 :: u65 :: u66 :: u67 :: u68 :: u69 :: u70 :: u71 :: u72 :: u73 :: u74 :: u75 :: u76 :: u77 :: u78 :: u79 :: u80 :: u81 :: u82 :: u83 :: u84 :: u85 :: u86 :: u87 :: u88 :: u89 :: u90 :: u91 :: u92 :: u93 :: u94 :: u95 :: u96 :: u97 :: u98 :: u99 :: u100 :: u101 :: u102 :: u103 :: u104 :: u105 :: u106 :: u107 :: u108 :: u109 :: u110 :: u111 :: u112 :: u113 :: u114 :: u115 :: u116 :: u117 :: u118 :: u119 :: u120 :: u121 :: u122 :: u123 :: u124 :: u125 :: u126 :: u127 :: u128 :: u129 :: u130 :: u131 :: u132 :: u133 :: u134 :: u135 :: u136 :: u137 :: u138 :: u139 :: u140 :: u141 :: u142 :: u143 :: u144 :: u145 :: u146 :: u147 :: u148 :: u149 :: u150 :: u151 :: u152 :: u153 :: u154 :: u155 :: u156 :: u157 :: u158 :: u159 :: u160 :: u161 :: u162 :: u163 :: u164 :: u165 :: u166 :: u167 :: u168 :: u169 :: u170 :: u171 :: u172 :: u173 :: u174 :: []), []⟩ w := by
  have HK := Lib.hid hK
  clear hK
  conv => arg 2; whnf
  have hmk : ∀ w, (Instr.makeSlice 22 (.int .i64 32) (.int .i64 32)).run Tryd.prog w = .ok (.slice (some ⟨w.heap.size, 0, none⟩) 32 32) (w.alloc (.cells (zcells 32) 5)) := make_bytes 32 (by omega)
  refine wp_region_noPanic (region_ord 5 [] (fun V => Below w.heap.size w V) (by kernel_rfl) (by kernel_rfl) (fun _ _ _ _ _ h => h) fun R => ?_)
  change anyI _ _ _ _ _ _ 6 _ _ w.drew
  have HS0 := Lib.hid (show (fun V => Below w.heap.size w V) w.drew from (Below.refl _ _).drew)
  obtain ⟨V0, hV0⟩ : ∃ V, w.drew = V := ⟨_, rfl⟩
  rw [hV0] at HS0 ⊢
  clear hV0
  have HM := Lib.hid (Mk.nil V0 w.heap.size HS0.out.size)
  refine anyI_four 0 1 2 3 (by kernel_rfl) rfl rfl rfl rfl ?_ ?_ ?_ ?_
  · try simp only [List.getElem_toArray, List.getElem_cons_succ, List.getElem_cons_zero]
    refine opE_step ?_
    rw [if_pos (by rfl)]
    go_simp
    replace HS0 := Lib.hid (HS0.out.alloc HS0.out.size (.cells (zcells 32) 5))
    replace HM := Lib.hid HM.out.push
    obtain ⟨V0a, hVn⟩ : ∃ V, V0.alloc (.cells (zcells 32) 5) = V := ⟨_, rfl⟩
    have HzV0a := Lib.hid (show V0.heap.size < V0a.heap.size by rw [← hVn]; simp)
    rw [hVn] at HS0 HM ⊢
    clear hVn
    try dsimp only
    refine ⟨HS0.out, ?_⟩
    try simp only [Act.put, List.getElem_toArray, List.getElem_cons_succ, List.getElem_cons_zero, List.setIfInBounds_toArray, List.set_cons_zero, List.set_cons_succ]
    refine anyI_three 1 2 3 (by kernel_rfl) rfl rfl rfl ?_ ?_ ?_
    · try simp only [List.getElem_toArray, List.getElem_cons_succ, List.getElem_cons_zero]
      refine opE_step ?_
      rw [if_pos (by rfl)]
      go_simp
      replace HS0 := Lib.hid (HS0.out.alloc HS0.out.size (.cells (zcells 32) 5))
      replace HM := Lib.hid HM.out.push
      obtain ⟨V0ab, hVn⟩ : ∃ V, V0a.alloc (.cells (zcells 32) 5) = V := ⟨_, rfl⟩
      have HzV0ab := Lib.hid (show V0a.heap.size < V0ab.heap.size by rw [← hVn]; simp)
      rw [hVn] at HS0 HM ⊢
      clear hVn
      try dsimp only
      refine ⟨HS0.out, ?_⟩
      try simp only [Act.put, List.getElem_toArray, List.getElem_cons_succ, List.getElem_cons_zero, List.setIfInBounds_toArray, List.set_cons_zero, List.set_cons_succ]
      refine anyI_two 2 3 (by kernel_rfl) rfl rfl ?_ ?_
      · try simp only [List.getElem_toArray, List.getElem_cons_succ, List.getElem_cons_zero]
        refine opE_step ?_
        rw [if_pos (by rfl)]
        go_simp
        replace HS0 := Lib.hid (HS0.out.alloc HS0.out.size (.cells (zcells 32) 5))
        replace HM := Lib.hid HM.out.push
        obtain ⟨V0abc, hVn⟩ : ∃ V, V0ab.alloc (.cells (zcells 32) 5) = V := ⟨_, rfl⟩
        have HzV0abc := Lib.hid (show V0ab.heap.size < V0abc.heap.size by rw [← hVn]; simp)
        rw [hVn] at HS0 HM ⊢
        clear hVn
        try dsimp only
        refine ⟨HS0.out, ?_⟩
        try simp only [Act.put, List.getElem_toArray, List.getElem_cons_succ, List.getElem_cons_zero, List.setIfInBounds_toArray, List.set_cons_zero, List.set_cons_succ]
        refine anyI_one 3 (by kernel_rfl) rfl ?_
        try simp only [List.getElem_toArray, List.getElem_cons_succ, List.getElem_cons_zero]
        refine opE_step ?_
        rw [if_pos (by rfl)]
        go_simp
        replace HS0 := Lib.hid (HS0.out.alloc HS0.out.size (.cells (zcells 32) 5))
        replace HM := Lib.hid HM.out.push
        obtain ⟨V0abcd, hVn⟩ : ∃ V, V0abc.alloc (.cells (zcells 32) 5) = V := ⟨_, rfl⟩
        have HzV0abcd := Lib.hid (show V0abc.heap.size < V0abcd.heap.size by rw [← hVn]; simp)
        rw [hVn] at HS0 HM ⊢
        clear hVn
        try dsimp only
        refine ⟨HS0.out, ?_⟩
        try simp only [Act.put, List.getElem_toArray, List.getElem_cons_succ, List.getElem_cons_zero, List.setIfInBounds_toArray, List.set_cons_zero, List.set_cons_succ]
        refine anyI_one 4 (by kernel_rfl) rfl ?_
        try simp only [List.getElem_toArray, List.getElem_cons_succ, List.getElem_cons_zero]
        refine opE_step ?_
        rw [if_pos (by rfl)]
        go_simp
        have HR := Lib.hid (HM.out.row [V0.heap.size, V0a.heap.size, V0ab.heap.size, V0abc.heap.size] (by simp) (fun b hb => by simp only [List.mem_cons, List.not_mem_nil, or_false] at hb ⊢; rcases hb with rfl | rfl | rfl | rfl <;> simp) (by have hn := HM.out.nd; simp only [List.nodup_cons, List.mem_cons, List.not_mem_nil, or_false, not_or, List.nodup_nil, and_true, not_false_eq_true] at hn ⊢; omega))
        replace HS0 := Lib.hid (HS0.out.alloc HS0.out.size (.cells #[.slice (some ⟨V0.heap.size, 0, none⟩) 32 32, .slice (some ⟨V0a.heap.size, 0, none⟩) 32 32, .slice (some ⟨V0ab.heap.size, 0, none⟩) 32 32, .slice (some ⟨V0abc.heap.size, 0, none⟩) 32 32] 22))
        obtain ⟨V0abcdr, hVn⟩ : ∃ V, V0abcd.alloc (.cells #[.slice (some ⟨V0.heap.size, 0, none⟩) 32 32, .slice (some ⟨V0a.heap.size, 0, none⟩) 32 32, .slice (some ⟨V0ab.heap.size, 0, none⟩) 32 32, .slice (some ⟨V0abc.heap.size, 0, none⟩) 32 32] 22) = V := ⟨_, rfl⟩
        have HR2 : Hid (Rw w.heap.size V0abcdr V0abcd.heap.size 4 4 (fun k => [V0.heap.size, V0a.heap.size, V0ab.heap.size, V0abc.heap.size].getD k 0) (fun _ => 32) [z32, z32, z32, z32]) := Lib.hid (by rw [← hVn]; exact HR.out)
        rw [hVn] at HS0 ⊢
        clear hVn HR
        try dsimp only
        refine ⟨HS0.out, ?_⟩
        try simp only [Act.put, List.getElem_toArray, List.getElem_cons_succ, List.getElem_cons_zero, List.setIfInBounds_toArray, List.set_cons_zero, List.set_cons_succ]
        refine anyI_tail (by kernel_rfl) ?_
        try simp only [List.drop_succ_cons, List.drop_zero]
        clear R
        go_wp2_with fail
        refine NoPanic.normal ?_
        go_wp2_with fail
        exact HK.out _ _ _ _ _ _ _ _ _ HR2.out HS0.out
      · try simp only [List.getElem_toArray, List.getElem_cons_succ, List.getElem_cons_zero]
        refine opE_step ?_
        rw [if_pos (by rfl)]
        go_simp
        replace HS0 := Lib.hid (HS0.out.alloc HS0.out.size (.cells (zcells 32) 5))
        replace HM := Lib.hid HM.out.push
        obtain ⟨V0abd, hVn⟩ : ∃ V, V0ab.alloc (.cells (zcells 32) 5) = V := ⟨_, rfl⟩
        have HzV0abd := Lib.hid (show V0ab.heap.size < V0abd.heap.size by rw [← hVn]; simp)
        rw [hVn] at HS0 HM ⊢
        clear hVn
        try dsimp only
        refine ⟨HS0.out, ?_⟩
        try simp only [Act.put, List.getElem_toArray, List.getElem_cons_succ, List.getElem_cons_zero, List.setIfInBounds_toArray, List.set_cons_zero, List.set_cons_succ]
        refine anyI_one 2 (by kernel_rfl) rfl ?_
        try simp only [List.getElem_toArray, List.getElem_cons_succ, List.getElem_cons_zero]
        refine opE_step ?_
        rw [if_pos (by rfl)]
        go_simp
        replace HS0 := Lib.hid (HS0.out.alloc HS0.out.size (.cells (zcells 32) 5))
        replace HM := Lib.hid HM.out.push
        obtain ⟨V0abdc, hVn⟩ : ∃ V, V0abd.alloc (.cells (zcells 32) 5) = V := ⟨_, rfl⟩
        have HzV0abdc := Lib.hid (show V0abd.heap.size < V0abdc.heap.size by rw [← hVn]; simp)
        rw [hVn] at HS0 HM ⊢
        clear hVn
        try dsimp only
        refine ⟨HS0.out, ?_⟩
        try simp only [Act.put, List.getElem_toArray, List.getElem_cons_succ, List.getElem_cons_zero, List.setIfInBounds_toArray, List.set_cons_zero, List.set_cons_succ]
        refine anyI_one 4 (by kernel_rfl) rfl ?_
        try simp only [List.getElem_toArray, List.getElem_cons_succ, List.getElem_cons_zero]
        refine opE_step ?_
        rw [if_pos (by rfl)]
        go_simp
        have HR := Lib.hid (HM.out.row [V0.heap.size, V0a.heap.size, V0abd.heap.size, V0ab.heap.size] (by simp) (fun b hb => by simp only [List.mem_cons, List.not_mem_nil, or_false] at hb ⊢; rcases hb with rfl | rfl | rfl | rfl <;> simp) (by have hn := HM.out.nd; simp only [List.nodup_cons, List.mem_cons, List.not_mem_nil, or_false, not_or, List.nodup_nil, and_true, not_false_eq_true] at hn ⊢; omega))
        replace HS0 := Lib.hid (HS0.out.alloc HS0.out.size (.cells #[.slice (some ⟨V0.heap.size, 0, none⟩) 32 32, .slice (some ⟨V0a.heap.size, 0, none⟩) 32 32, .slice (some ⟨V0abd.heap.size, 0, none⟩) 32 32, .slice (some ⟨V0ab.heap.size, 0, none⟩) 32 32] 22))
        obtain ⟨V0abdcr, hVn⟩ : ∃ V, V0abdc.alloc (.cells #[.slice (some ⟨V0.heap.size, 0, none⟩) 32 32, .slice (some ⟨V0a.heap.size, 0, none⟩) 32 32, .slice (some ⟨V0abd.heap.size, 0, none⟩) 32 32, .slice (some ⟨V0ab.heap.size, 0, none⟩) 32 32] 22) = V := ⟨_, rfl⟩
        have HR2 : Hid (Rw w.heap.size V0abdcr V0abdc.heap.size 4 4 (fun k => [V0.heap.size, V0a.heap.size, V0abd.heap.size, V0ab.heap.size].getD k 0) (fun _ => 32) [z32, z32, z32, z32]) := Lib.hid (by rw [← hVn]; exact HR.out)
        rw [hVn] at HS0 ⊢
        clear hVn HR
        try dsimp only
        refine ⟨HS0.out, ?_⟩
        try simp only [Act.put, List.getElem_toArray, List.getElem_cons_succ, List.getElem_cons_zero, List.setIfInBounds_toArray, List.set_cons_zero, List.set_cons_succ]
        refine anyI_tail (by kernel_rfl) ?_
        try simp only [List.drop_succ_cons, List.drop_zero]
        clear R
        go_wp2_with fail
        refine NoPanic.normal ?_
        go_wp2_with fail
        exact HK.out _ _ _ _ _ _ _ _ _ HR2.out HS0.out
    · try simp only [List.getElem_toArray, List.getElem_cons_succ, List.getElem_cons_zero]
      refine opE_step ?_
      rw [if_pos (by rfl)]
      go_simp
      replace HS0 := Lib.hid (HS0.out.alloc HS0.out.size (.cells (zcells 32) 5))
      replace HM := Lib.hid HM.out.push
      obtain ⟨V0ac, hVn⟩ : ∃ V, V0a.alloc (.cells (zcells 32) 5) = V := ⟨_, rfl⟩
      have HzV0ac := Lib.hid (show V0a.heap.size < V0ac.heap.size by rw [← hVn]; simp)
      rw [hVn] at HS0 HM ⊢
      clear hVn
      try dsimp only
      refine ⟨HS0.out, ?_⟩
      try simp only [Act.put, List.getElem_toArray, List.getElem_cons_succ, List.getElem_cons_zero, List.setIfInBounds_toArray, List.set_cons_zero, List.set_cons_succ]
      refine anyI_two 1 3 (by kernel_rfl) rfl rfl ?_ ?_
      · try simp only [List.getElem_toArray, List.getElem_cons_succ, List.getElem_cons_zero]
        refine opE_step ?_
        rw [if_pos (by rfl)]
        go_simp
        replace HS0 := Lib.hid (HS0.out.alloc HS0.out.size (.cells (zcells 32) 5))
        replace HM := Lib.hid HM.out.push
        obtain ⟨V0acb, hVn⟩ : ∃ V, V0ac.alloc (.cells (zcells 32) 5) = V := ⟨_, rfl⟩
        have HzV0acb := Lib.hid (show V0ac.heap.size < V0acb.heap.size by rw [← hVn]; simp)
        rw [hVn] at HS0 HM ⊢
        clear hVn
        try dsimp only
        refine ⟨HS0.out, ?_⟩
        try simp only [Act.put, List.getElem_toArray, List.getElem_cons_succ, List.getElem_cons_zero, List.setIfInBounds_toArray, List.set_cons_zero, List.set_cons_succ]
        refine anyI_one 3 (by kernel_rfl) rfl ?_
        try simp only [List.getElem_toArray, List.getElem_cons_succ, List.getElem_cons_zero]
        refine opE_step ?_
        rw [if_pos (by rfl)]
        go_simp
        replace HS0 := Lib.hid (HS0.out.alloc HS0.out.size (.cells (zcells 32) 5))
        replace HM := Lib.hid HM.out.push
        obtain ⟨V0acbd, hVn⟩ : ∃ V, V0acb.alloc (.cells (zcells 32) 5) = V := ⟨_, rfl⟩
        have HzV0acbd := Lib.hid (show V0acb.heap.size < V0acbd.heap.size by rw [← hVn]; simp)
        rw [hVn] at HS0 HM ⊢
        clear hVn
        try dsimp only
        refine ⟨HS0.out, ?_⟩
        try simp only [Act.put, List.getElem_toArray, List.getElem_cons_succ, List.getElem_cons_zero, List.setIfInBounds_toArray, List.set_cons_zero, List.set_cons_succ]
        refine anyI_one 4 (by kernel_rfl) rfl ?_
        try simp only [List.getElem_toArray, List.getElem_cons_succ, List.getElem_cons_zero]
        refine opE_step ?_
        rw [if_pos (by rfl)]
        go_simp
        have HR := Lib.hid (HM.out.row [V0.heap.size, V0ac.heap.size, V0a.heap.size, V0acb.heap.size] (by simp) (fun b hb => by simp only [List.mem_cons, List.not_mem_nil, or_false] at hb ⊢; rcases hb with rfl | rfl | rfl | rfl <;> simp) (by have hn := HM.out.nd; simp only [List.nodup_cons, List.mem_cons, List.not_mem_nil, or_false, not_or, List.nodup_nil, and_true, not_false_eq_true] at hn ⊢; omega))
        replace HS0 := Lib.hid (HS0.out.alloc HS0.out.size (.cells #[.slice (some ⟨V0.heap.size, 0, none⟩) 32 32, .slice (some ⟨V0ac.heap.size, 0, none⟩) 32 32, .slice (some ⟨V0a.heap.size, 0, none⟩) 32 32, .slice (some ⟨V0acb.heap.size, 0, none⟩) 32 32] 22))
        obtain ⟨V0acbdr, hVn⟩ : ∃ V, V0acbd.alloc (.cells #[.slice (some ⟨V0.heap.size, 0, none⟩) 32 32, .slice (some ⟨V0ac.heap.size, 0, none⟩) 32 32, .slice (some ⟨V0a.heap.size, 0, none⟩) 32 32, .slice (some ⟨V0acb.heap.size, 0, none⟩) 32 32] 22) = V := ⟨_, rfl⟩
        have HR2 : Hid (Rw w.heap.size V0acbdr V0acbd.heap.size 4 4 (fun k => [V0.heap.size, V0ac.heap.size, V0a.heap.size, V0acb.heap.size].getD k 0) (fun _ => 32) [z32, z32, z32, z32]) := Lib.hid (by rw [← hVn]; exact HR.out)
        rw [hVn] at HS0 ⊢
        clear hVn HR
        try dsimp only
        refine ⟨HS0.out, ?_⟩
        try simp only [Act.put, List.getElem_toArray, List.getElem_cons_succ, List.getElem_cons_zero, List.setIfInBounds_toArray, List.set_cons_zero, List.set_cons_succ]
        refine anyI_tail (by kernel_rfl) ?_
        try simp only [List.drop_succ_cons, List.drop_zero]
        clear R
        go_wp2_with fail
        refine NoPanic.normal ?_
        go_wp2_with fail
        exact HK.out _ _ _ _ _ _ _ _ _ HR2.out HS0.out
      · try simp only [List.getElem_toArray, List.getElem_cons_succ, List.getElem_cons_zero]
        refine opE_step ?_
        rw [if_pos (by rfl)]
        go_simp
        replace HS0 := Lib.hid (HS0.out.alloc HS0.out.size (.cells (zcells 32) 5))
        replace HM := Lib.hid HM.out.push
        obtain ⟨V0acd, hVn⟩ : ∃ V, V0ac.alloc (.cells (zcells 32) 5) = V := ⟨_, rfl⟩
        have HzV0acd := Lib.hid (show V0ac.heap.size < V0acd.heap.size by rw [← hVn]; simp)
        rw [hVn] at HS0 HM ⊢
        clear hVn
        try dsimp only
        refine ⟨HS0.out, ?_⟩
        try simp only [Act.put, List.getElem_toArray, List.getElem_cons_succ, List.getElem_cons_zero, List.setIfInBounds_toArray, List.set_cons_zero, List.set_cons_succ]
        refine anyI_one 1 (by kernel_rfl) rfl ?_
        try simp only [List.getElem_toArray, List.getElem_cons_succ, List.getElem_cons_zero]
        refine opE_step ?_
        rw [if_pos (by rfl)]
        go_simp
        replace HS0 := Lib.hid (HS0.out.alloc HS0.out.size (.cells (zcells 32) 5))
        replace HM := Lib.hid HM.out.push
        obtain ⟨V0acdb, hVn⟩ : ∃ V, V0acd.alloc (.cells (zcells 32) 5) = V := ⟨_, rfl⟩
        have HzV0acdb := Lib.hid (show V0acd.heap.size < V0acdb.heap.size by rw [← hVn]; simp)
        rw [hVn] at HS0 HM ⊢
        clear hVn
        try dsimp only
        refine ⟨HS0.out, ?_⟩
        try simp only [Act.put, List.getElem_toArray, List.getElem_cons_succ, List.getElem_cons_zero, List.setIfInBounds_toArray, List.set_cons_zero, List.set_cons_succ]
        refine anyI_one 4 (by kernel_rfl) rfl ?_
        try simp only [List.getElem_toArray, List.getElem_cons_succ, List.getElem_cons_zero]
        refine opE_step ?_
        rw [if_pos (by rfl)]
        go_simp
        have HR := Lib.hid (HM.out.row [V0.heap.size, V0acd.heap.size, V0a.heap.size, V0ac.heap.size] (by simp) (fun b hb => by simp only [List.mem_cons, List.not_mem_nil, or_false] at hb ⊢; rcases hb with rfl | rfl | rfl | rfl <;> simp) (by have hn := HM.out.nd; simp only [List.nodup_cons, List.mem_cons, List.not_mem_nil, or_false, not_or, List.nodup_nil, and_true, not_false_eq_true] at hn ⊢; omega))
        replace HS0 := Lib.hid (HS0.out.alloc HS0.out.size (.cells #[.slice (some ⟨V0.heap.size, 0, none⟩) 32 32, .slice (some ⟨V0acd.heap.size, 0, none⟩) 32 32, .slice (some ⟨V0a.heap.size, 0, none⟩) 32 32, .slice (some ⟨V0ac.heap.size, 0, none⟩) 32 32] 22))
        obtain ⟨V0acdbr, hVn⟩ : ∃ V, V0acdb.alloc (.cells #[.slice (some ⟨V0.heap.size, 0, none⟩) 32 32, .slice (some ⟨V0acd.heap.size, 0, none⟩) 32 32, .slice (some ⟨V0a.heap.size, 0, none⟩) 32 32, .slice (some ⟨V0ac.heap.size, 0, none⟩) 32 32] 22) = V := ⟨_, rfl⟩
        have HR2 : Hid (Rw w.heap.size V0acdbr V0acdb.heap.size 4 4 (fun k => [V0.heap.size, V0acd.heap.size, V0a.heap.size, V0ac.heap.size].getD k 0) (fun _ => 32) [z32, z32, z32, z32]) := Lib.hid (by rw [← hVn]; exact HR.out)
        rw [hVn] at HS0 ⊢
        clear hVn HR
        try dsimp only
        refine ⟨HS0.out, ?_⟩
        try simp only [Act.put, List.getElem_toArray, List.getElem_cons_succ, List.getElem_cons_zero, List.setIfInBounds_toArray, List.set_cons_zero, List.set_cons_succ]
        refine anyI_tail (by kernel_rfl) ?_
        try simp only [List.drop_succ_cons, List.drop_zero]
        clear R
        go_wp2_with fail
        refine NoPanic.normal ?_
        go_wp2_with fail
        exact HK.out _ _ _ _ _ _ _ _ _ HR2.out HS0.out
    · try simp only [List.getElem_toArray, List.getElem_cons_succ, List.getElem_cons_zero]
      refine opE_step ?_
      rw [if_pos (by rfl)]
      go_simp
      replace HS0 := Lib.hid (HS0.out.alloc HS0.out.size (.cells (zcells 32) 5))
      replace HM := Lib.hid HM.out.push
      obtain ⟨V0ad, hVn⟩ : ∃ V, V0a.alloc (.cells (zcells 32) 5) = V := ⟨_, rfl⟩
      have HzV0ad := Lib.hid (show V0a.heap.size < V0ad.heap.size by rw [← hVn]; simp)
      rw [hVn] at HS0 HM ⊢
      clear hVn
      try dsimp only
      refine ⟨HS0.out, ?_⟩
      try simp only [Act.put, List.getElem_toArray, List.getElem_cons_succ, List.getElem_cons_zero, List.setIfInBounds_toArray, List.set_cons_zero, List.set_cons_succ]
      refine anyI_two 1 2 (by kernel_rfl) rfl rfl ?_ ?_
      · try simp only [List.getElem_toArray, List.getElem_cons_succ, List.getElem_cons_zero]
        refine opE_step ?_
        rw [if_pos (by rfl)]
        go_simp
        replace HS0 := Lib.hid (HS0.out.alloc HS0.out.size (.cells (zcells 32) 5))
        replace HM := Lib.hid HM.out.push
        obtain ⟨V0adb, hVn⟩ : ∃ V, V0ad.alloc (.cells (zcells 32) 5) = V := ⟨_, rfl⟩
        have HzV0adb := Lib.hid (show V0ad.heap.size < V0adb.heap.size by rw [← hVn]; simp)
        rw [hVn] at HS0 HM ⊢
        clear hVn
        try dsimp only
        refine ⟨HS0.out, ?_⟩
        try simp only [Act.put, List.getElem_toArray, List.getElem_cons_succ, List.getElem_cons_zero, List.setIfInBounds_toArray, List.set_cons_zero, List.set_cons_succ]
        refine anyI_one 2 (by kernel_rfl) rfl ?_
        try simp only [List.getElem_toArray, List.getElem_cons_succ, List.getElem_cons_zero]
        refine opE_step ?_
        rw [if_pos (by rfl)]
        go_simp
        replace HS0 := Lib.hid (HS0.out.alloc HS0.out.size (.cells (zcells 32) 5))
        replace HM := Lib.hid HM.out.push
        obtain ⟨V0adbc, hVn⟩ : ∃ V, V0adb.alloc (.cells (zcells 32) 5) = V := ⟨_, rfl⟩
        have HzV0adbc := Lib.hid (show V0adb.heap.size < V0adbc.heap.size by rw [← hVn]; simp)
        rw [hVn] at HS0 HM ⊢
        clear hVn
        try dsimp only
        refine ⟨HS0.out, ?_⟩
        try simp only [Act.put, List.getElem_toArray, List.getElem_cons_succ, List.getElem_cons_zero, List.setIfInBounds_toArray, List.set_cons_zero, List.set_cons_succ]
        refine anyI_one 4 (by kernel_rfl) rfl ?_
        try simp only [List.getElem_toArray, List.getElem_cons_succ, List.getElem_cons_zero]
        refine opE_step ?_
        rw [if_pos (by rfl)]
        go_simp
        have HR := Lib.hid (HM.out.row [V0.heap.size, V0ad.heap.size, V0adb.heap.size, V0a.heap.size] (by simp) (fun b hb => by simp only [List.mem_cons, List.not_mem_nil, or_false] at hb ⊢; rcases hb with rfl | rfl | rfl | rfl <;> simp) (by have hn := HM.out.nd; simp only [List.nodup_cons, List.mem_cons, List.not_mem_nil, or_false, not_or, List.nodup_nil, and_true, not_false_eq_true] at hn ⊢; omega))
        replace HS0 := Lib.hid (HS0.out.alloc HS0.out.size (.cells #[.slice (some ⟨V0.heap.size, 0, none⟩) 32 32, .slice (some ⟨V0ad.heap.size, 0, none⟩) 32 32, .slice (some ⟨V0adb.heap.size, 0, none⟩) 32 32, .slice (some ⟨V0a.heap.size, 0, none⟩) 32 32] 22))
        obtain ⟨V0adbcr, hVn⟩ : ∃ V, V0adbc.alloc (.cells #[.slice (some ⟨V0.heap.size, 0, none⟩) 32 32, .slice (some ⟨V0ad.heap.size, 0, none⟩) 32 32, .slice (some ⟨V0adb.heap.size, 0, none⟩) 32 32, .slice (some ⟨V0a.heap.size, 0, none⟩) 32 32] 22) = V := ⟨_, rfl⟩
        have HR2 : Hid (Rw w.heap.size V0adbcr V0adbc.heap.size 4 4 (fun k => [V0.heap.size, V0ad.heap.size, V0adb.heap.size, V0a.heap.size].getD k 0) (fun _ => 32) [z32, z32, z32, z32]) := Lib.hid (by rw [← hVn]; exact HR.out)
        rw [hVn] at HS0 ⊢
        clear hVn HR
        try dsimp only
        refine ⟨HS0.out, ?_⟩
        try simp only [Act.put, List.getElem_toArray, List.getElem_cons_succ, List.getElem_cons_zero, List.setIfInBounds_toArray, List.set_cons_zero, List.set_cons_succ]
        refine anyI_tail (by kernel_rfl) ?_
        try simp only [List.drop_succ_cons, List.drop_zero]
        clear R
        go_wp2_with fail
        refine NoPanic.normal ?_
        go_wp2_with fail
        exact HK.out _ _ _ _ _ _ _ _ _ HR2.out HS0.out
      · try simp only [List.getElem_toArray, List.getElem_cons_succ, List.getElem_cons_zero]
        refine opE_step ?_
        rw [if_pos (by rfl)]
        go_simp
        replace HS0 := Lib.hid (HS0.out.alloc HS0.out.size (.cells (zcells 32) 5))
        replace HM := Lib.hid HM.out.push
        obtain ⟨V0adc, hVn⟩ : ∃ V, V0ad.alloc (.cells (zcells 32) 5) = V := ⟨_, rfl⟩
        have HzV0adc := Lib.hid (show V0ad.heap.size < V0adc.heap.size by rw [← hVn]; simp)
        rw [hVn] at HS0 HM ⊢
        clear hVn
        try dsimp only
        refine ⟨HS0.out, ?_⟩
        try simp only [Act.put, List.getElem_toArray, List.getElem_cons_succ, List.getElem_cons_zero, List.setIfInBounds_toArray, List.set_cons_zero, List.set_cons_succ]
        refine anyI_one 1 (by kernel_rfl) rfl ?_
        try simp only [List.getElem_toArray, List.getElem_cons_succ, List.getElem_cons_zero]
        refine opE_step ?_
        rw [if_pos (by rfl)]
        go_simp
        replace HS0 := Lib.hid (HS0.out.alloc HS0.out.size (.cells (zcells 32) 5))
        replace HM := Lib.hid HM.out.push
        obtain ⟨V0adcb, hVn⟩ : ∃ V, V0adc.alloc (.cells (zcells 32) 5) = V := ⟨_, rfl⟩
        have HzV0adcb := Lib.hid (show V0adc.heap.size < V0adcb.heap.size by rw [← hVn]; simp)
        rw [hVn] at HS0 HM ⊢
        clear hVn
        try dsimp only
        refine ⟨HS0.out, ?_⟩
        try simp only [Act.put, List.getElem_toArray, List.getElem_cons_succ, List.getElem_cons_zero, List.setIfInBounds_toArray, List.set_cons_zero, List.set_cons_succ]
        refine anyI_one 4 (by kernel_rfl) rfl ?_
        try simp only [List.getElem_toArray, List.getElem_cons_succ, List.getElem_cons_zero]
        refine opE_step ?_
        rw [if_pos (by rfl)]
        go_simp
        have HR := Lib.hid (HM.out.row [V0.heap.size, V0adc.heap.size, V0ad.heap.size, V0a.heap.size] (by simp) (fun b hb => by simp only [List.mem_cons, List.not_mem_nil, or_false] at hb ⊢; rcases hb with rfl | rfl | rfl | rfl <;> simp) (by have hn := HM.out.nd; simp only [List.nodup_cons, List.mem_cons, List.not_mem_nil, or_false, not_or, List.nodup_nil, and_true, not_false_eq_true] at hn ⊢; omega))
        replace HS0 := Lib.hid (HS0.out.alloc HS0.out.size (.cells #[.slice (some ⟨V0.heap.size, 0, none⟩) 32 32, .slice (some ⟨V0adc.heap.size, 0, none⟩) 32 32, .slice (some ⟨V0ad.heap.size, 0, none⟩) 32 32, .slice (some ⟨V0a.heap.size, 0, none⟩) 32 32] 22))
        obtain ⟨V0adcbr, hVn⟩ : ∃ V, V0adcb.alloc (.cells #[.slice (some ⟨V0.heap.size, 0, none⟩) 32 32, .slice (some ⟨V0adc.heap.size, 0, none⟩) 32 32, .slice (some ⟨V0ad.heap.size, 0, none⟩) 32 32, .slice (some ⟨V0a.heap.size, 0, none⟩) 32 32] 22) = V := ⟨_, rfl⟩
        have HR2 : Hid (Rw w.heap.size V0adcbr V0adcb.heap.size 4 4 (fun k => [V0.heap.size, V0adc.heap.size, V0ad.heap.size, V0a.heap.size].getD k 0) (fun _ => 32) [z32, z32, z32, z32]) := Lib.hid (by rw [← hVn]; exact HR.out)
        rw [hVn] at HS0 ⊢
        clear hVn HR
        try dsimp only
        refine ⟨HS0.out, ?_⟩
        try simp only [Act.put, List.getElem_toArray, List.getElem_cons_succ, List.getElem_cons_zero, List.setIfInBounds_toArray, List.set_cons_zero, List.set_cons_succ]
        refine anyI_tail (by kernel_rfl) ?_
        try simp only [List.drop_succ_cons, List.drop_zero]
        clear R
        go_wp2_with fail
        refine NoPanic.normal ?_
        go_wp2_with fail
        exact HK.out _ _ _ _ _ _ _ _ _ HR2.out HS0.out
  · try simp only [List.getElem_toArray, List.getElem_cons_succ, List.getElem_cons_zero]
    refine opE_step ?_
    rw [if_pos (by rfl)]
    go_simp
    replace HS0 := Lib.hid (HS0.out.alloc HS0.out.size (.cells (zcells 32) 5))
    replace HM := Lib.hid HM.out.push
    obtain ⟨V0b, hVn⟩ : ∃ V, V0.alloc (.cells (zcells 32) 5) = V := ⟨_, rfl⟩
    have HzV0b := Lib.hid (show V0.heap.size < V0b.heap.size by rw [← hVn]; simp)
    rw [hVn] at HS0 HM ⊢
    clear hVn
    try dsimp only
    refine ⟨HS0.out, ?_⟩
    try simp only [Act.put, List.getElem_toArray, List.getElem_cons_succ, List.getElem_cons_zero, List.setIfInBounds_toArray, List.set_cons_zero, List.set_cons_succ]
    refine anyI_three 0 2 3 (by kernel_rfl) rfl rfl rfl ?_ ?_ ?_
    · try simp only [List.getElem_toArray, List.getElem_cons_succ, List.getElem_cons_zero]
      refine opE_step ?_
      rw [if_pos (by rfl)]
      go_simp
      replace HS0 := Lib.hid (HS0.out.alloc HS0.out.size (.cells (zcells 32) 5))
      replace HM := Lib.hid HM.out.push
      obtain ⟨V0ba, hVn⟩ : ∃ V, V0b.alloc (.cells (zcells 32) 5) = V := ⟨_, rfl⟩
      have HzV0ba := Lib.hid (show V0b.heap.size < V0ba.heap.size by rw [← hVn]; simp)
      rw [hVn] at HS0 HM ⊢
      clear hVn
      try dsimp only
      refine ⟨HS0.out, ?_⟩
      try simp only [Act.put, List.getElem_toArray, List.getElem_cons_succ, List.getElem_cons_zero, List.setIfInBounds_toArray, List.set_cons_zero, List.set_cons_succ]
      refine anyI_two 2 3 (by kernel_rfl) rfl rfl ?_ ?_
      · try simp only [List.getElem_toArray, List.getElem_cons_succ, List.getElem_cons_zero]
        refine opE_step ?_
        rw [if_pos (by rfl)]
        go_simp
        replace HS0 := Lib.hid (HS0.out.alloc HS0.out.size (.cells (zcells 32) 5))
        replace HM := Lib.hid HM.out.push
        obtain ⟨V0bac, hVn⟩ : ∃ V, V0ba.alloc (.cells (zcells 32) 5) = V := ⟨_, rfl⟩
        have HzV0bac := Lib.hid (show V0ba.heap.size < V0bac.heap.size by rw [← hVn]; simp)
        rw [hVn] at HS0 HM ⊢
        clear hVn
        try dsimp only
        refine ⟨HS0.out, ?_⟩
        try simp only [Act.put, List.getElem_toArray, List.getElem_cons_succ, List.getElem_cons_zero, List.setIfInBounds_toArray, List.set_cons_zero, List.set_cons_succ]
        refine anyI_one 3 (by kernel_rfl) rfl ?_
        try simp only [List.getElem_toArray, List.getElem_cons_succ, List.getElem_cons_zero]
        refine opE_step ?_
        rw [if_pos (by rfl)]
        go_simp
        replace HS0 := Lib.hid (HS0.out.alloc HS0.out.size (.cells (zcells 32) 5))
        replace HM := Lib.hid HM.out.push
        obtain ⟨V0bacd, hVn⟩ : ∃ V, V0bac.alloc (.cells (zcells 32) 5) = V := ⟨_, rfl⟩
        have HzV0bacd := Lib.hid (show V0bac.heap.size < V0bacd.heap.size by rw [← hVn]; simp)
        rw [hVn] at HS0 HM ⊢
        clear hVn
        try dsimp only
        refine ⟨HS0.out, ?_⟩
        try simp only [Act.put, List.getElem_toArray, List.getElem_cons_succ, List.getElem_cons_zero, List.setIfInBounds_toArray, List.set_cons_zero, List.set_cons_succ]
        refine anyI_one 4 (by kernel_rfl) rfl ?_
        try simp only [List.getElem_toArray, List.getElem_cons_succ, List.getElem_cons_zero]
        refine opE_step ?_
        rw [if_pos (by rfl)]
        go_simp
        have HR := Lib.hid (HM.out.row [V0b.heap.size, V0.heap.size, V0ba.heap.size, V0bac.heap.size] (by simp) (fun b hb => by simp only [List.mem_cons, List.not_mem_nil, or_false] at hb ⊢; rcases hb with rfl | rfl | rfl | rfl <;> simp) (by have hn := HM.out.nd; simp only [List.nodup_cons, List.mem_cons, List.not_mem_nil, or_false, not_or, List.nodup_nil, and_true, not_false_eq_true] at hn ⊢; omega))
        replace HS0 := Lib.hid (HS0.out.alloc HS0.out.size (.cells #[.slice (some ⟨V0b.heap.size, 0, none⟩) 32 32, .slice (some ⟨V0.heap.size, 0, none⟩) 32 32, .slice (some ⟨V0ba.heap.size, 0, none⟩) 32 32, .slice (some ⟨V0bac.heap.size, 0, none⟩) 32 32] 22))
        obtain ⟨V0bacdr, hVn⟩ : ∃ V, V0bacd.alloc (.cells #[.slice (some ⟨V0b.heap.size, 0, none⟩) 32 32, .slice (some ⟨V0.heap.size, 0, none⟩) 32 32, .slice (some ⟨V0ba.heap.size, 0, none⟩) 32 32, .slice (some ⟨V0bac.heap.size, 0, none⟩) 32 32] 22) = V := ⟨_, rfl⟩
        have HR2 : Hid (Rw w.heap.size V0bacdr V0bacd.heap.size 4 4 (fun k => [V0b.heap.size, V0.heap.size, V0ba.heap.size, V0bac.heap.size].getD k 0) (fun _ => 32) [z32, z32, z32, z32]) := Lib.hid (by rw [← hVn]; exact HR.out)
        rw [hVn] at HS0 ⊢
        clear hVn HR
        try dsimp only
        refine ⟨HS0.out, ?_⟩
        try simp only [Act.put, List.getElem_toArray, List.getElem_cons_succ, List.getElem_cons_zero, List.setIfInBounds_toArray, List.set_cons_zero, List.set_cons_succ]
        refine anyI_tail (by kernel_rfl) ?_
        try simp only [List.drop_succ_cons, List.drop_zero]
        clear R
        go_wp2_with fail
        refine NoPanic.normal ?_
        go_wp2_with fail
        exact HK.out _ _ _ _ _ _ _ _ _ HR2.out HS0.out
      · try simp only [List.getElem_toArray, List.getElem_cons_succ, List.getElem_cons_zero]
        refine opE_step ?_
        rw [if_pos (by rfl)]
        go_simp
        replace HS0 := Lib.hid (HS0.out.alloc HS0.out.size (.cells (zcells 32) 5))
        replace HM := Lib.hid HM.out.push
        obtain ⟨V0bad, hVn⟩ : ∃ V, V0ba.alloc (.cells (zcells 32) 5) = V := ⟨_, rfl⟩
        have HzV0bad := Lib.hid (show V0ba.heap.size < V0bad.heap.size by rw [← hVn]; simp)
        rw [hVn] at HS0 HM ⊢
        clear hVn
        try dsimp only
        refine ⟨HS0.out, ?_⟩
        try simp only [Act.put, List.getElem_toArray, List.getElem_cons_succ, List.getElem_cons_zero, List.setIfInBounds_toArray, List.set_cons_zero, List.set_cons_succ]
        refine anyI_one 2 (by kernel_rfl) rfl ?_
        try simp only [List.getElem_toArray, List.getElem_cons_succ, List.getElem_cons_zero]
        refine opE_step ?_
        rw [if_pos (by rfl)]
        go_simp
        replace HS0 := Lib.hid (HS0.out.alloc HS0.out.size (.cells (zcells 32) 5))
        replace HM := Lib.hid HM.out.push
        obtain ⟨V0badc, hVn⟩ : ∃ V, V0bad.alloc (.cells (zcells 32) 5) = V := ⟨_, rfl⟩
        have HzV0badc := Lib.hid (show V0bad.heap.size < V0badc.heap.size by rw [← hVn]; simp)
        rw [hVn] at HS0 HM ⊢
        clear hVn
        try dsimp only
        refine ⟨HS0.out, ?_⟩
        try simp only [Act.put, List.getElem_toArray, List.getElem_cons_succ, List.getElem_cons_zero, List.setIfInBounds_toArray, List.set_cons_zero, List.set_cons_succ]
        refine anyI_one 4 (by kernel_rfl) rfl ?_
        try simp only [List.getElem_toArray, List.getElem_cons_succ, List.getElem_cons_zero]
        refine opE_step ?_
        rw [if_pos (by rfl)]
        go_simp
        have HR := Lib.hid (HM.out.row [V0b.heap.size, V0.heap.size, V0bad.heap.size, V0ba.heap.size] (by simp) (fun b hb => by simp only [List.mem_cons, List.not_mem_nil, or_false] at hb ⊢; rcases hb with rfl | rfl | rfl | rfl <;> simp) (by have hn := HM.out.nd; simp only [List.nodup_cons, List.mem_cons, List.not_mem_nil, or_false, not_or, List.nodup_nil, and_true, not_false_eq_true] at hn ⊢; omega))
        replace HS0 := Lib.hid (HS0.out.alloc HS0.out.size (.cells #[.slice (some ⟨V0b.heap.size, 0, none⟩) 32 32, .slice (some ⟨V0.heap.size, 0, none⟩) 32 32, .slice (some ⟨V0bad.heap.size, 0, none⟩) 32 32, .slice (some ⟨V0ba.heap.size, 0, none⟩) 32 32] 22))
        obtain ⟨V0badcr, hVn⟩ : ∃ V, V0badc.alloc (.cells #[.slice (some ⟨V0b.heap.size, 0, none⟩) 32 32, .slice (some ⟨V0.heap.size, 0, none⟩) 32 32, .slice (some ⟨V0bad.heap.size, 0, none⟩) 32 32, .slice (some ⟨V0ba.heap.size, 0, none⟩) 32 32] 22) = V := ⟨_, rfl⟩
        have HR2 : Hid (Rw w.heap.size V0badcr V0badc.heap.size 4 4 (fun k => [V0b.heap.size, V0.heap.size, V0bad.heap.size, V0ba.heap.size].getD k 0) (fun _ => 32) [z32, z32, z32, z32]) := Lib.hid (by rw [← hVn]; exact HR.out)
        rw [hVn] at HS0 ⊢
        clear hVn HR
        try dsimp only
        refine ⟨HS0.out, ?_⟩
        try simp only [Act.put, List.getElem_toArray, List.getElem_cons_succ, List.getElem_cons_zero, List.setIfInBounds_toArray, List.set_cons_zero, List.set_cons_succ]
        refine anyI_tail (by kernel_rfl) ?_
        try simp only [List.drop_succ_cons, List.drop_zero]
        clear R
        go_wp2_with fail
        refine NoPanic.normal ?_
        go_wp2_with fail
        exact HK.out _ _ _ _ _ _ _ _ _ HR2.out HS0.out
    · try simp only [List.getElem_toArray, List.getElem_cons_succ, List.getElem_cons_zero]
      refine opE_step ?_
      rw [if_pos (by rfl)]
      go_simp
      replace HS0 := Lib.hid (HS0.out.alloc HS0.out.size (.cells (zcells 32) 5))
      replace HM := Lib.hid HM.out.push
      obtain ⟨V0bc, hVn⟩ : ∃ V, V0b.alloc (.cells (zcells 32) 5) = V := ⟨_, rfl⟩
      have HzV0bc := Lib.hid (show V0b.heap.size < V0bc.heap.size by rw [← hVn]; simp)
      rw [hVn] at HS0 HM ⊢
      clear hVn
      try dsimp only
      refine ⟨HS0.out, ?_⟩
      try simp only [Act.put, List.getElem_toArray, List.getElem_cons_succ, List.getElem_cons_zero, List.setIfInBounds_toArray, List.set_cons_zero, List.set_cons_succ]
      refine anyI_two 0 3 (by kernel_rfl) rfl rfl ?_ ?_
      · try simp only [List.getElem_toArray, List.getElem_cons_succ, List.getElem_cons_zero]
        refine opE_step ?_
        rw [if_pos (by rfl)]
        go_simp
        replace HS0 := Lib.hid (HS0.out.alloc HS0.out.size (.cells (zcells 32) 5))
        replace HM := Lib.hid HM.out.push
        obtain ⟨V0bca, hVn⟩ : ∃ V, V0bc.alloc (.cells (zcells 32) 5) = V := ⟨_, rfl⟩
        have HzV0bca := Lib.hid (show V0bc.heap.size < V0bca.heap.size by rw [← hVn]; simp)
        rw [hVn] at HS0 HM ⊢
        clear hVn
        try dsimp only
        refine ⟨HS0.out, ?_⟩
        try simp only [Act.put, List.getElem_toArray, List.getElem_cons_succ, List.getElem_cons_zero, List.setIfInBounds_toArray, List.set_cons_zero, List.set_cons_succ]
        refine anyI_one 3 (by kernel_rfl) rfl ?_
        try simp only [List.getElem_toArray, List.getElem_cons_succ, List.getElem_cons_zero]
        refine opE_step ?_
        rw [if_pos (by rfl)]
        go_simp
        replace HS0 := Lib.hid (HS0.out.alloc HS0.out.size (.cells (zcells 32) 5))
        replace HM := Lib.hid HM.out.push
        obtain ⟨V0bcad, hVn⟩ : ∃ V, V0bca.alloc (.cells (zcells 32) 5) = V := ⟨_, rfl⟩
        have HzV0bcad := Lib.hid (show V0bca.heap.size < V0bcad.heap.size by rw [← hVn]; simp)
        rw [hVn] at HS0 HM ⊢
        clear hVn
        try dsimp only
        refine ⟨HS0.out, ?_⟩
        try simp only [Act.put, List.getElem_toArray, List.getElem_cons_succ, List.getElem_cons_zero, List.setIfInBounds_toArray, List.set_cons_zero, List.set_cons_succ]
        refine anyI_one 4 (by kernel_rfl) rfl ?_
        try simp only [List.getElem_toArray, List.getElem_cons_succ, List.getElem_cons_zero]
        refine opE_step ?_
        rw [if_pos (by rfl)]
        go_simp
        have HR := Lib.hid (HM.out.row [V0bc.heap.size, V0.heap.size, V0b.heap.size, V0bca.heap.size] (by simp) (fun b hb => by simp only [List.mem_cons, List.not_mem_nil, or_false] at hb ⊢; rcases hb with rfl | rfl | rfl | rfl <;> simp) (by have hn := HM.out.nd; simp only [List.nodup_cons, List.mem_cons, List.not_mem_nil, or_false, not_or, List.nodup_nil, and_true, not_false_eq_true] at hn ⊢; omega))
        replace HS0 := Lib.hid (HS0.out.alloc HS0.out.size (.cells #[.slice (some ⟨V0bc.heap.size, 0, none⟩) 32 32, .slice (some ⟨V0.heap.size, 0, none⟩) 32 32, .slice (some ⟨V0b.heap.size, 0, none⟩) 32 32, .slice (some ⟨V0bca.heap.size, 0, none⟩) 32 32] 22))
        obtain ⟨V0bcadr, hVn⟩ : ∃ V, V0bcad.alloc (.cells #[.slice (some ⟨V0bc.heap.size, 0, none⟩) 32 32, .slice (some ⟨V0.heap.size, 0, none⟩) 32 32, .slice (some ⟨V0b.heap.size, 0, none⟩) 32 32, .slice (some ⟨V0bca.heap.size, 0, none⟩) 32 32] 22) = V := ⟨_, rfl⟩
        have HR2 : Hid (Rw w.heap.size V0bcadr V0bcad.heap.size 4 4 (fun k => [V0bc.heap.size, V0.heap.size, V0b.heap.size, V0bca.heap.size].getD k 0) (fun _ => 32) [z32, z32, z32, z32]) := Lib.hid (by rw [← hVn]; exact HR.out)
        rw [hVn] at HS0 ⊢
        clear hVn HR
        try dsimp only
        refine ⟨HS0.out, ?_⟩
        try simp only [Act.put, List.getElem_toArray, List.getElem_cons_succ, List.getElem_cons_zero, List.setIfInBounds_toArray, List.set_cons_zero, List.set_cons_succ]
        refine anyI_tail (by kernel_rfl) ?_
        try simp only [List.drop_succ_cons, List.drop_zero]
        clear R
        go_wp2_with fail
        refine NoPanic.normal ?_
        go_wp2_with fail
        exact HK.out _ _ _ _ _ _ _ _ _ HR2.out HS0.out
      · try simp only [List.getElem_toArray, List.getElem_cons_succ, List.getElem_cons_zero]
        refine opE_step ?_
        rw [if_pos (by rfl)]
        go_simp
        replace HS0 := Lib.hid (HS0.out.alloc HS0.out.size (.cells (zcells 32) 5))
        replace HM := Lib.hid HM.out.push
        obtain ⟨V0bcd, hVn⟩ : ∃ V, V0bc.alloc (.cells (zcells 32) 5) = V := ⟨_, rfl⟩
        have HzV0bcd := Lib.hid (show V0bc.heap.size < V0bcd.heap.size by rw [← hVn]; simp)
        rw [hVn] at HS0 HM ⊢
        clear hVn
        try dsimp only
        refine ⟨HS0.out, ?_⟩
        try simp only [Act.put, List.getElem_toArray, List.getElem_cons_succ, List.getElem_cons_zero, List.setIfInBounds_toArray, List.set_cons_zero, List.set_cons_succ]
        refine anyI_one 0 (by kernel_rfl) rfl ?_
        try simp only [List.getElem_toArray, List.getElem_cons_succ, List.getElem_cons_zero]
        refine opE_step ?_
        rw [if_pos (by rfl)]
        go_simp
        replace HS0 := Lib.hid (HS0.out.alloc HS0.out.size (.cells (zcells 32) 5))
        replace HM := Lib.hid HM.out.push
        obtain ⟨V0bcda, hVn⟩ : ∃ V, V0bcd.alloc (.cells (zcells 32) 5) = V := ⟨_, rfl⟩
        have HzV0bcda := Lib.hid (show V0bcd.heap.size < V0bcda.heap.size by rw [← hVn]; simp)
        rw [hVn] at HS0 HM ⊢
        clear hVn
        try dsimp only
        refine ⟨HS0.out, ?_⟩
        try simp only [Act.put, List.getElem_toArray, List.getElem_cons_succ, List.getElem_cons_zero, List.setIfInBounds_toArray, List.set_cons_zero, List.set_cons_succ]
        refine anyI_one 4 (by kernel_rfl) rfl ?_
        try simp only [List.getElem_toArray, List.getElem_cons_succ, List.getElem_cons_zero]
        refine opE_step ?_
        rw [if_pos (by rfl)]
        go_simp
        have HR := Lib.hid (HM.out.row [V0bcd.heap.size, V0.heap.size, V0b.heap.size, V0bc.heap.size] (by simp) (fun b hb => by simp only [List.mem_cons, List.not_mem_nil, or_false] at hb ⊢; rcases hb with rfl | rfl | rfl | rfl <;> simp) (by have hn := HM.out.nd; simp only [List.nodup_cons, List.mem_cons, List.not_mem_nil, or_false, not_or, List.nodup_nil, and_true, not_false_eq_true] at hn ⊢; omega))
        replace HS0 := Lib.hid (HS0.out.alloc HS0.out.size (.cells #[.slice (some ⟨V0bcd.heap.size, 0, none⟩) 32 32, .slice (some ⟨V0.heap.size, 0, none⟩) 32 32, .slice (some ⟨V0b.heap.size, 0, none⟩) 32 32, .slice (some ⟨V0bc.heap.size, 0, none⟩) 32 32] 22))
        obtain ⟨V0bcdar, hVn⟩ : ∃ V, V0bcda.alloc (.cells #[.slice (some ⟨V0bcd.heap.size, 0, none⟩) 32 32, .slice (some ⟨V0.heap.size, 0, none⟩) 32 32, .slice (some ⟨V0b.heap.size, 0, none⟩) 32 32, .slice (some ⟨V0bc.heap.size, 0, none⟩) 32 32] 22) = V := ⟨_, rfl⟩
        have HR2 : Hid (Rw w.heap.size V0bcdar V0bcda.heap.size 4 4 (fun k => [V0bcd.heap.size, V0.heap.size, V0b.heap.size, V0bc.heap.size].getD k 0) (fun _ => 32) [z32, z32, z32, z32]) := Lib.hid (by rw [← hVn]; exact HR.out)
        rw [hVn] at HS0 ⊢
        clear hVn HR
        try dsimp only
        refine ⟨HS0.out, ?_⟩
        try simp only [Act.put, List.getElem_toArray, List.getElem_cons_succ, List.getElem_cons_zero, List.setIfInBounds_toArray, List.set_cons_zero, List.set_cons_succ]
        refine anyI_tail (by kernel_rfl) ?_
        try simp only [List.drop_succ_cons, List.drop_zero]
        clear R
        go_wp2_with fail
        refine NoPanic.normal ?_
        go_wp2_with fail
        exact HK.out _ _ _ _ _ _ _ _ _ HR2.out HS0.out
    · try simp only [List.getElem_toArray, List.getElem_cons_succ, List.getElem_cons_zero]
      refine opE_step ?_
      rw [if_pos (by rfl)]
      go_simp
      replace HS0 := Lib.hid (HS0.out.alloc HS0.out.size (.cells (zcells 32) 5))
      replace HM := Lib.hid HM.out.push
      obtain ⟨V0bd, hVn⟩ : ∃ V, V0b.alloc (.cells (zcells 32) 5) = V := ⟨_, rfl⟩
      have HzV0bd := Lib.hid (show V0b.heap.size < V0bd.heap.size by rw [← hVn]; simp)
      rw [hVn] at HS0 HM ⊢
      clear hVn
      try dsimp only
      refine ⟨HS0.out, ?_⟩
      try simp only [Act.put, List.getElem_toArray, List.getElem_cons_succ, List.getElem_cons_zero, List.setIfInBounds_toArray, List.set_cons_zero, List.set_cons_succ]
      refine anyI_two 0 2 (by kernel_rfl) rfl rfl ?_ ?_
      · try simp only [List.getElem_toArray, List.getElem_cons_succ, List.getElem_cons_zero]
        refine opE_step ?_
        rw [if_pos (by rfl)]
        go_simp
        replace HS0 := Lib.hid (HS0.out.alloc HS0.out.size (.cells (zcells 32) 5))
        replace HM := Lib.hid HM.out.push
        obtain ⟨V0bda, hVn⟩ : ∃ V, V0bd.alloc (.cells (zcells 32) 5) = V := ⟨_, rfl⟩
        have HzV0bda := Lib.hid (show V0bd.heap.size < V0bda.heap.size by rw [← hVn]; simp)
        rw [hVn] at HS0 HM ⊢
        clear hVn
        try dsimp only
        refine ⟨HS0.out, ?_⟩
        try simp only [Act.put, List.getElem_toArray, List.getElem_cons_succ, List.getElem_cons_zero, List.setIfInBounds_toArray, List.set_cons_zero, List.set_cons_succ]
        refine anyI_one 2 (by kernel_rfl) rfl ?_
        try simp only [List.getElem_toArray, List.getElem_cons_succ, List.getElem_cons_zero]
        refine opE_step ?_
        rw [if_pos (by rfl)]
        go_simp
        replace HS0 := Lib.hid (HS0.out.alloc HS0.out.size (.cells (zcells 32) 5))
        replace HM := Lib.hid HM.out.push
        obtain ⟨V0bdac, hVn⟩ : ∃ V, V0bda.alloc (.cells (zcells 32) 5) = V := ⟨_, rfl⟩
        have HzV0bdac := Lib.hid (show V0bda.heap.size < V0bdac.heap.size by rw [← hVn]; simp)
        rw [hVn] at HS0 HM ⊢
        clear hVn
        try dsimp only
        refine ⟨HS0.out, ?_⟩
        try simp only [Act.put, List.getElem_toArray, List.getElem_cons_succ, List.getElem_cons_zero, List.setIfInBounds_toArray, List.set_cons_zero, List.set_cons_succ]
        refine anyI_one 4 (by kernel_rfl) rfl ?_
        try simp only [List.getElem_toArray, List.getElem_cons_succ, List.getElem_cons_zero]
        refine opE_step ?_
        rw [if_pos (by rfl)]
        go_simp
        have HR := Lib.hid (HM.out.row [V0bd.heap.size, V0.heap.size, V0bda.heap.size, V0b.heap.size] (by simp) (fun b hb => by simp only [List.mem_cons, List.not_mem_nil, or_false] at hb ⊢; rcases hb with rfl | rfl | rfl | rfl <;> simp) (by have hn := HM.out.nd; simp only [List.nodup_cons, List.mem_cons, List.not_mem_nil, or_false, not_or, List.nodup_nil, and_true, not_false_eq_true] at hn ⊢; omega))
        replace HS0 := Lib.hid (HS0.out.alloc HS0.out.size (.cells #[.slice (some ⟨V0bd.heap.size, 0, none⟩) 32 32, .slice (some ⟨V0.heap.size, 0, none⟩) 32 32, .slice (some ⟨V0bda.heap.size, 0, none⟩) 32 32, .slice (some ⟨V0b.heap.size, 0, none⟩) 32 32] 22))
        obtain ⟨V0bdacr, hVn⟩ : ∃ V, V0bdac.alloc (.cells #[.slice (some ⟨V0bd.heap.size, 0, none⟩) 32 32, .slice (some ⟨V0.heap.size, 0, none⟩) 32 32, .slice (some ⟨V0bda.heap.size, 0, none⟩) 32 32, .slice (some ⟨V0b.heap.size, 0, none⟩) 32 32] 22) = V := ⟨_, rfl⟩
        have HR2 : Hid (Rw w.heap.size V0bdacr V0bdac.heap.size 4 4 (fun k => [V0bd.heap.size, V0.heap.size, V0bda.heap.size, V0b.heap.size].getD k 0) (fun _ => 32) [z32, z32, z32, z32]) := Lib.hid (by rw [← hVn]; exact HR.out)
        rw [hVn] at HS0 ⊢
        clear hVn HR
        try dsimp only
        refine ⟨HS0.out, ?_⟩
        try simp only [Act.put, List.getElem_toArray, List.getElem_cons_succ, List.getElem_cons_zero, List.setIfInBounds_toArray, List.set_cons_zero, List.set_cons_succ]
        refine anyI_tail (by kernel_rfl) ?_
        try simp only [List.drop_succ_cons, List.drop_zero]
        clear R
        go_wp2_with fail
        refine NoPanic.normal ?_
        go_wp2_with fail
        exact HK.out _ _ _ _ _ _ _ _ _ HR2.out HS0.out
      · try simp only [List.getElem_toArray, List.getElem_cons_succ, List.getElem_cons_zero]
        refine opE_step ?_
        rw [if_pos (by rfl)]
        go_simp
        replace HS0 := Lib.hid (HS0.out.alloc HS0.out.size (.cells (zcells 32) 5))
        replace HM := Lib.hid HM.out.push
        obtain ⟨V0bdc, hVn⟩ : ∃ V, V0bd.alloc (.cells (zcells 32) 5) = V := ⟨_, rfl⟩
        have HzV0bdc := Lib.hid (show V0bd.heap.size < V0bdc.heap.size by rw [← hVn]; simp)
        rw [hVn] at HS0 HM ⊢
        clear hVn
        try dsimp only
        refine ⟨HS0.out, ?_⟩
        try simp only [Act.put, List.getElem_toArray, List.getElem_cons_succ, List.getElem_cons_zero, List.setIfInBounds_toArray, List.set_cons_zero, List.set_cons_succ]
        refine anyI_one 0 (by kernel_rfl) rfl ?_
        try simp only [List.getElem_toArray, List.getElem_cons_succ, List.getElem_cons_zero]
        refine opE_step ?_
        rw [if_pos (by rfl)]
        go_simp
        replace HS0 := Lib.hid (HS0.out.alloc HS0.out.size (.cells (zcells 32) 5))
        replace HM := Lib.hid HM.out.push
        obtain ⟨V0bdca, hVn⟩ : ∃ V, V0bdc.alloc (.cells (zcells 32) 5) = V := ⟨_, rfl⟩
        have HzV0bdca := Lib.hid (show V0bdc.heap.size < V0bdca.heap.size by rw [← hVn]; simp)
        rw [hVn] at HS0 HM ⊢
        clear hVn
        try dsimp only
        refine ⟨HS0.out, ?_⟩
        try simp only [Act.put, List.getElem_toArray, List.getElem_cons_succ, List.getElem_cons_zero, List.setIfInBounds_toArray, List.set_cons_zero, List.set_cons_succ]
        refine anyI_one 4 (by kernel_rfl) rfl ?_
        try simp only [List.getElem_toArray, List.getElem_cons_succ, List.getElem_cons_zero]
        refine opE_step ?_
        rw [if_pos (by rfl)]
        go_simp
        have HR := Lib.hid (HM.out.row [V0bdc.heap.size, V0.heap.size, V0bd.heap.size, V0b.heap.size] (by simp) (fun b hb => by simp only [List.mem_cons, List.not_mem_nil, or_false] at hb ⊢; rcases hb with rfl | rfl | rfl | rfl <;> simp) (by have hn := HM.out.nd; simp only [List.nodup_cons, List.mem_cons, List.not_mem_nil, or_false, not_or, List.nodup_nil, and_true, not_false_eq_true] at hn ⊢; omega))
        replace HS0 := Lib.hid (HS0.out.alloc HS0.out.size (.cells #[.slice (some ⟨V0bdc.heap.size, 0, none⟩) 32 32, .slice (some ⟨V0.heap.size, 0, none⟩) 32 32, .slice (some ⟨V0bd.heap.size, 0, none⟩) 32 32, .slice (some ⟨V0b.heap.size, 0, none⟩) 32 32] 22))
        obtain ⟨V0bdcar, hVn⟩ : ∃ V, V0bdca.alloc (.cells #[.slice (some ⟨V0bdc.heap.size, 0, none⟩) 32 32, .slice (some ⟨V0.heap.size, 0, none⟩) 32 32, .slice (some ⟨V0bd.heap.size, 0, none⟩) 32 32, .slice (some ⟨V0b.heap.size, 0, none⟩) 32 32] 22) = V := ⟨_, rfl⟩
        have HR2 : Hid (Rw w.heap.size V0bdcar V0bdca.heap.size 4 4 (fun k => [V0bdc.heap.size, V0.heap.size, V0bd.heap.size, V0b.heap.size].getD k 0) (fun _ => 32) [z32, z32, z32, z32]) := Lib.hid (by rw [← hVn]; exact HR.out)
        rw [hVn] at HS0 ⊢
        clear hVn HR
        try dsimp only
        refine ⟨HS0.out, ?_⟩
        try simp only [Act.put, List.getElem_toArray, List.getElem_cons_succ, List.getElem_cons_zero, List.setIfInBounds_toArray, List.set_cons_zero, List.set_cons_succ]
        refine anyI_tail (by kernel_rfl) ?_
        try simp only [List.drop_succ_cons, List.drop_zero]
        clear R
        go_wp2_with fail
        refine NoPanic.normal ?_
        go_wp2_with fail
        exact HK.out _ _ _ _ _ _ _ _ _ HR2.out HS0.out
  · try simp only [List.getElem_toArray, List.getElem_cons_succ, List.getElem_cons_zero]
    refine opE_step ?_
    rw [if_pos (by rfl)]
    go_simp
    replace HS0 := Lib.hid (HS0.out.alloc HS0.out.size (.cells (zcells 32) 5))
    replace HM := Lib.hid HM.out.push
    obtain ⟨V0c, hVn⟩ : ∃ V, V0.alloc (.cells (zcells 32) 5) = V := ⟨_, rfl⟩
    have HzV0c := Lib.hid (show V0.heap.size < V0c.heap.size by rw [← hVn]; simp)
    rw [hVn] at HS0 HM ⊢
    clear hVn
    try dsimp only
    refine ⟨HS0.out, ?_⟩
    try simp only [Act.put, List.getElem_toArray, List.getElem_cons_succ, List.getElem_cons_zero, List.setIfInBounds_toArray, List.set_cons_zero, List.set_cons_succ]
    refine anyI_three 0 1 3 (by kernel_rfl) rfl rfl rfl ?_ ?_ ?_
    · try simp only [List.getElem_toArray, List.getElem_cons_succ, List.getElem_cons_zero]
      refine opE_step ?_
      rw [if_pos (by rfl)]
      go_simp
      replace HS0 := Lib.hid (HS0.out.alloc HS0.out.size (.cells (zcells 32) 5))
      replace HM := Lib.hid HM.out.push
      obtain ⟨V0ca, hVn⟩ : ∃ V, V0c.alloc (.cells (zcells 32) 5) = V := ⟨_, rfl⟩
      have HzV0ca := Lib.hid (show V0c.heap.size < V0ca.heap.size by rw [← hVn]; simp)
      rw [hVn] at HS0 HM ⊢
      clear hVn
      try dsimp only
      refine ⟨HS0.out, ?_⟩
      try simp only [Act.put, List.getElem_toArray, List.getElem_cons_succ, List.getElem_cons_zero, List.setIfInBounds_toArray, List.set_cons_zero, List.set_cons_succ]
      refine anyI_two 1 3 (by kernel_rfl) rfl rfl ?_ ?_
      · try simp only [List.getElem_toArray, List.getElem_cons_succ, List.getElem_cons_zero]
        refine opE_step ?_
        rw [if_pos (by rfl)]
        go_simp
        replace HS0 := Lib.hid (HS0.out.alloc HS0.out.size (.cells (zcells 32) 5))
        replace HM := Lib.hid HM.out.push
        obtain ⟨V0cab, hVn⟩ : ∃ V, V0ca.alloc (.cells (zcells 32) 5) = V := ⟨_, rfl⟩
        have HzV0cab := Lib.hid (show V0ca.heap.size < V0cab.heap.size by rw [← hVn]; simp)
        rw [hVn] at HS0 HM ⊢
        clear hVn
        try dsimp only
        refine ⟨HS0.out, ?_⟩
        try simp only [Act.put, List.getElem_toArray, List.getElem_cons_succ, List.getElem_cons_zero, List.setIfInBounds_toArray, List.set_cons_zero, List.set_cons_succ]
        refine anyI_one 3 (by kernel_rfl) rfl ?_
        try simp only [List.getElem_toArray, List.getElem_cons_succ, List.getElem_cons_zero]
        refine opE_step ?_
        rw [if_pos (by rfl)]
        go_simp
        replace HS0 := Lib.hid (HS0.out.alloc HS0.out.size (.cells (zcells 32) 5))
        replace HM := Lib.hid HM.out.push
        obtain ⟨V0cabd, hVn⟩ : ∃ V, V0cab.alloc (.cells (zcells 32) 5) = V := ⟨_, rfl⟩
        have HzV0cabd := Lib.hid (show V0cab.heap.size < V0cabd.heap.size by rw [← hVn]; simp)
        rw [hVn] at HS0 HM ⊢
        clear hVn
        try dsimp only
        refine ⟨HS0.out, ?_⟩
        try simp only [Act.put, List.getElem_toArray, List.getElem_cons_succ, List.getElem_cons_zero, List.setIfInBounds_toArray, List.set_cons_zero, List.set_cons_succ]
        refine anyI_one 4 (by kernel_rfl) rfl ?_
        try simp only [List.getElem_toArray, List.getElem_cons_succ, List.getElem_cons_zero]
        refine opE_step ?_
        rw [if_pos (by rfl)]
        go_simp
        have HR := Lib.hid (HM.out.row [V0c.heap.size, V0ca.heap.size, V0.heap.size, V0cab.heap.size] (by simp) (fun b hb => by simp only [List.mem_cons, List.not_mem_nil, or_false] at hb ⊢; rcases hb with rfl | rfl | rfl | rfl <;> simp) (by have hn := HM.out.nd; simp only [List.nodup_cons, List.mem_cons, List.not_mem_nil, or_false, not_or, List.nodup_nil, and_true, not_false_eq_true] at hn ⊢; omega))
        replace HS0 := Lib.hid (HS0.out.alloc HS0.out.size (.cells #[.slice (some ⟨V0c.heap.size, 0, none⟩) 32 32, .slice (some ⟨V0ca.heap.size, 0, none⟩) 32 32, .slice (some ⟨V0.heap.size, 0, none⟩) 32 32, .slice (some ⟨V0cab.heap.size, 0, none⟩) 32 32] 22))
        obtain ⟨V0cabdr, hVn⟩ : ∃ V, V0cabd.alloc (.cells #[.slice (some ⟨V0c.heap.size, 0, none⟩) 32 32, .slice (some ⟨V0ca.heap.size, 0, none⟩) 32 32, .slice (some ⟨V0.heap.size, 0, none⟩) 32 32, .slice (some ⟨V0cab.heap.size, 0, none⟩) 32 32] 22) = V := ⟨_, rfl⟩
        have HR2 : Hid (Rw w.heap.size V0cabdr V0cabd.heap.size 4 4 (fun k => [V0c.heap.size, V0ca.heap.size, V0.heap.size, V0cab.heap.size].getD k 0) (fun _ => 32) [z32, z32, z32, z32]) := Lib.hid (by rw [← hVn]; exact HR.out)
        rw [hVn] at HS0 ⊢
        clear hVn HR
        try dsimp only
        refine ⟨HS0.out, ?_⟩
        try simp only [Act.put, List.getElem_toArray, List.getElem_cons_succ, List.getElem_cons_zero, List.setIfInBounds_toArray, List.set_cons_zero, List.set_cons_succ]
        refine anyI_tail (by kernel_rfl) ?_
        try simp only [List.drop_succ_cons, List.drop_zero]
        clear R
        go_wp2_with fail
        refine NoPanic.normal ?_
        go_wp2_with fail
        exact HK.out _ _ _ _ _ _ _ _ _ HR2.out HS0.out
      · try simp only [List.getElem_toArray, List.getElem_cons_succ, List.getElem_cons_zero]
        refine opE_step ?_
        rw [if_pos (by rfl)]
        go_simp
        replace HS0 := Lib.hid (HS0.out.alloc HS0.out.size (.cells (zcells 32) 5))
        replace HM := Lib.hid HM.out.push
        obtain ⟨V0cad, hVn⟩ : ∃ V, V0ca.alloc (.cells (zcells 32) 5) = V := ⟨_, rfl⟩
        have HzV0cad := Lib.hid (show V0ca.heap.size < V0cad.heap.size by rw [← hVn]; simp)
        rw [hVn] at HS0 HM ⊢
        clear hVn
        try dsimp only
        refine ⟨HS0.out, ?_⟩
        try simp only [Act.put, List.getElem_toArray, List.getElem_cons_succ, List.getElem_cons_zero, List.setIfInBounds_toArray, List.set_cons_zero, List.set_cons_succ]
        refine anyI_one 1 (by kernel_rfl) rfl ?_
        try simp only [List.getElem_toArray, List.getElem_cons_succ, List.getElem_cons_zero]
        refine opE_step ?_
        rw [if_pos (by rfl)]
        go_simp
        replace HS0 := Lib.hid (HS0.out.alloc HS0.out.size (.cells (zcells 32) 5))
        replace HM := Lib.hid HM.out.push
        obtain ⟨V0cadb, hVn⟩ : ∃ V, V0cad.alloc (.cells (zcells 32) 5) = V := ⟨_, rfl⟩
        have HzV0cadb := Lib.hid (show V0cad.heap.size < V0cadb.heap.size by rw [← hVn]; simp)
        rw [hVn] at HS0 HM ⊢
        clear hVn
        try dsimp only
        refine ⟨HS0.out, ?_⟩
        try simp only [Act.put, List.getElem_toArray, List.getElem_cons_succ, List.getElem_cons_zero, List.setIfInBounds_toArray, List.set_cons_zero, List.set_cons_succ]
        refine anyI_one 4 (by kernel_rfl) rfl ?_
        try simp only [List.getElem_toArray, List.getElem_cons_succ, List.getElem_cons_zero]
        refine opE_step ?_
        rw [if_pos (by rfl)]
        go_simp
        have HR := Lib.hid (HM.out.row [V0c.heap.size, V0cad.heap.size, V0.heap.size, V0ca.heap.size] (by simp) (fun b hb => by simp only [List.mem_cons, List.not_mem_nil, or_false] at hb ⊢; rcases hb with rfl | rfl | rfl | rfl <;> simp) (by have hn := HM.out.nd; simp only [List.nodup_cons, List.mem_cons, List.not_mem_nil, or_false, not_or, List.nodup_nil, and_true, not_false_eq_true] at hn ⊢; omega))
        replace HS0 := Lib.hid (HS0.out.alloc HS0.out.size (.cells #[.slice (some ⟨V0c.heap.size, 0, none⟩) 32 32, .slice (some ⟨V0cad.heap.size, 0, none⟩) 32 32, .slice (some ⟨V0.heap.size, 0, none⟩) 32 32, .slice (some ⟨V0ca.heap.size, 0, none⟩) 32 32] 22))
        obtain ⟨V0cadbr, hVn⟩ : ∃ V, V0cadb.alloc (.cells #[.slice (some ⟨V0c.heap.size, 0, none⟩) 32 32, .slice (some ⟨V0cad.heap.size, 0, none⟩) 32 32, .slice (some ⟨V0.heap.size, 0, none⟩) 32 32, .slice (some ⟨V0ca.heap.size, 0, none⟩) 32 32] 22) = V := ⟨_, rfl⟩
        have HR2 : Hid (Rw w.heap.size V0cadbr V0cadb.heap.size 4 4 (fun k => [V0c.heap.size, V0cad.heap.size, V0.heap.size, V0ca.heap.size].getD k 0) (fun _ => 32) [z32, z32, z32, z32]) := Lib.hid (by rw [← hVn]; exact HR.out)
        rw [hVn] at HS0 ⊢
        clear hVn HR
        try dsimp only
        refine ⟨HS0.out, ?_⟩
        try simp only [Act.put, List.getElem_toArray, List.getElem_cons_succ, List.getElem_cons_zero, List.setIfInBounds_toArray, List.set_cons_zero, List.set_cons_succ]
        refine anyI_tail (by kernel_rfl) ?_
        try simp only [List.drop_succ_cons, List.drop_zero]
        clear R
        go_wp2_with fail
        refine NoPanic.normal ?_
        go_wp2_with fail
        exact HK.out _ _ _ _ _ _ _ _ _ HR2.out HS0.out
    · try simp only [List.getElem_toArray, List.getElem_cons_succ, List.getElem_cons_zero]
      refine opE_step ?_
      rw [if_pos (by rfl)]
      go_simp
      replace HS0 := Lib.hid (HS0.out.alloc HS0.out.size (.cells (zcells 32) 5))
      replace HM := Lib.hid HM.out.push
      obtain ⟨V0cb, hVn⟩ : ∃ V, V0c.alloc (.cells (zcells 32) 5) = V := ⟨_, rfl⟩
      have HzV0cb := Lib.hid (show V0c.heap.size < V0cb.heap.size by rw [← hVn]; simp)
      rw [hVn] at HS0 HM ⊢
      clear hVn
      try dsimp only
      refine ⟨HS0.out, ?_⟩
      try simp only [Act.put, List.getElem_toArray, List.getElem_cons_succ, List.getElem_cons_zero, List.setIfInBounds_toArray, List.set_cons_zero, List.set_cons_succ]
      refine anyI_two 0 3 (by kernel_rfl) rfl rfl ?_ ?_
      · try simp only [List.getElem_toArray, List.getElem_cons_succ, List.getElem_cons_zero]
        refine opE_step ?_
        rw [if_pos (by rfl)]
        go_simp
        replace HS0 := Lib.hid (HS0.out.alloc HS0.out.size (.cells (zcells 32) 5))
        replace HM := Lib.hid HM.out.push
        obtain ⟨V0cba, hVn⟩ : ∃ V, V0cb.alloc (.cells (zcells 32) 5) = V := ⟨_, rfl⟩
        have HzV0cba := Lib.hid (show V0cb.heap.size < V0cba.heap.size by rw [← hVn]; simp)
        rw [hVn] at HS0 HM ⊢
        clear hVn
        try dsimp only
        refine ⟨HS0.out, ?_⟩
        try simp only [Act.put, List.getElem_toArray, List.getElem_cons_succ, List.getElem_cons_zero, List.setIfInBounds_toArray, List.set_cons_zero, List.set_cons_succ]
        refine anyI_one 3 (by kernel_rfl) rfl ?_
        try simp only [List.getElem_toArray, List.getElem_cons_succ, List.getElem_cons_zero]
        refine opE_step ?_
        rw [if_pos (by rfl)]
        go_simp
        replace HS0 := Lib.hid (HS0.out.alloc HS0.out.size (.cells (zcells 32) 5))
        replace HM := Lib.hid HM.out.push
        obtain ⟨V0cbad, hVn⟩ : ∃ V, V0cba.alloc (.cells (zcells 32) 5) = V := ⟨_, rfl⟩
        have HzV0cbad := Lib.hid (show V0cba.heap.size < V0cbad.heap.size by rw [← hVn]; simp)
        rw [hVn] at HS0 HM ⊢
        clear hVn
        try dsimp only
        refine ⟨HS0.out, ?_⟩
        try simp only [Act.put, List.getElem_toArray, List.getElem_cons_succ, List.getElem_cons_zero, List.setIfInBounds_toArray, List.set_cons_zero, List.set_cons_succ]
        refine anyI_one 4 (by kernel_rfl) rfl ?_
        try simp only [List.getElem_toArray, List.getElem_cons_succ, List.getElem_cons_zero]
        refine opE_step ?_
        rw [if_pos (by rfl)]
        go_simp
        have HR := Lib.hid (HM.out.row [V0cb.heap.size, V0c.heap.size, V0.heap.size, V0cba.heap.size] (by simp) (fun b hb => by simp only [List.mem_cons, List.not_mem_nil, or_false] at hb ⊢; rcases hb with rfl | rfl | rfl | rfl <;> simp) (by have hn := HM.out.nd; simp only [List.nodup_cons, List.mem_cons, List.not_mem_nil, or_false, not_or, List.nodup_nil, and_true, not_false_eq_true] at hn ⊢; omega))
        replace HS0 := Lib.hid (HS0.out.alloc HS0.out.size (.cells #[.slice (some ⟨V0cb.heap.size, 0, none⟩) 32 32, .slice (some ⟨V0c.heap.size, 0, none⟩) 32 32, .slice (some ⟨V0.heap.size, 0, none⟩) 32 32, .slice (some ⟨V0cba.heap.size, 0, none⟩) 32 32] 22))
        obtain ⟨V0cbadr, hVn⟩ : ∃ V, V0cbad.alloc (.cells #[.slice (some ⟨V0cb.heap.size, 0, none⟩) 32 32, .slice (some ⟨V0c.heap.size, 0, none⟩) 32 32, .slice (some ⟨V0.heap.size, 0, none⟩) 32 32, .slice (some ⟨V0cba.heap.size, 0, none⟩) 32 32] 22) = V := ⟨_, rfl⟩
        have HR2 : Hid (Rw w.heap.size V0cbadr V0cbad.heap.size 4 4 (fun k => [V0cb.heap.size, V0c.heap.size, V0.heap.size, V0cba.heap.size].getD k 0) (fun _ => 32) [z32, z32, z32, z32]) := Lib.hid (by rw [← hVn]; exact HR.out)
        rw [hVn] at HS0 ⊢
        clear hVn HR
        try dsimp only
        refine ⟨HS0.out, ?_⟩
        try simp only [Act.put, List.getElem_toArray, List.getElem_cons_succ, List.getElem_cons_zero, List.setIfInBounds_toArray, List.set_cons_zero, List.set_cons_succ]
        refine anyI_tail (by kernel_rfl) ?_
        try simp only [List.drop_succ_cons, List.drop_zero]
        clear R
        go_wp2_with fail
        refine NoPanic.normal ?_
        go_wp2_with fail
        exact HK.out _ _ _ _ _ _ _ _ _ HR2.out HS0.out
      · try simp only [List.getElem_toArray, List.getElem_cons_succ, List.getElem_cons_zero]
        refine opE_step ?_
        rw [if_pos (by rfl)]
        go_simp
        replace HS0 := Lib.hid (HS0.out.alloc HS0.out.size (.cells (zcells 32) 5))
        replace HM := Lib.hid HM.out.push
        obtain ⟨V0cbd, hVn⟩ : ∃ V, V0cb.alloc (.cells (zcells 32) 5) = V := ⟨_, rfl⟩
        have HzV0cbd := Lib.hid (show V0cb.heap.size < V0cbd.heap.size by rw [← hVn]; simp)
        rw [hVn] at HS0 HM ⊢
        clear hVn
        try dsimp only
        refine ⟨HS0.out, ?_⟩
        try simp only [Act.put, List.getElem_toArray, List.getElem_cons_succ, List.getElem_cons_zero, List.setIfInBounds_toArray, List.set_cons_zero, List.set_cons_succ]
        refine anyI_one 0 (by kernel_rfl) rfl ?_
        try simp only [List.getElem_toArray, List.getElem_cons_succ, List.getElem_cons_zero]
        refine opE_step ?_
        rw [if_pos (by rfl)]
        go_simp
        replace HS0 := Lib.hid (HS0.out.alloc HS0.out.size (.cells (zcells 32) 5))
        replace HM := Lib.hid HM.out.push
        obtain ⟨V0cbda, hVn⟩ : ∃ V, V0cbd.alloc (.cells (zcells 32) 5) = V := ⟨_, rfl⟩
        have HzV0cbda := Lib.hid (show V0cbd.heap.size < V0cbda.heap.size by rw [← hVn]; simp)
        rw [hVn] at HS0 HM ⊢
        clear hVn
        try dsimp only
        refine ⟨HS0.out, ?_⟩
        try simp only [Act.put, List.getElem_toArray, List.getElem_cons_succ, List.getElem_cons_zero, List.setIfInBounds_toArray, List.set_cons_zero, List.set_cons_succ]
        refine anyI_one 4 (by kernel_rfl) rfl ?_
        try simp only [List.getElem_toArray, List.getElem_cons_succ, List.getElem_cons_zero]
        refine opE_step ?_
        rw [if_pos (by rfl)]
        go_simp
        have HR := Lib.hid (HM.out.row [V0cbd.heap.size, V0c.heap.size, V0.heap.size, V0cb.heap.size] (by simp) (fun b hb => by simp only [List.mem_cons, List.not_mem_nil, or_false] at hb ⊢; rcases hb with rfl | rfl | rfl | rfl <;> simp) (by have hn := HM.out.nd; simp only [List.nodup_cons, List.mem_cons, List.not_mem_nil, or_false, not_or, List.nodup_nil, and_true, not_false_eq_true] at hn ⊢; omega))
        replace HS0 := Lib.hid (HS0.out.alloc HS0.out.size (.cells #[.slice (some ⟨V0cbd.heap.size, 0, none⟩) 32 32, .slice (some ⟨V0c.heap.size, 0, none⟩) 32 32, .slice (some ⟨V0.heap.size, 0, none⟩) 32 32, .slice (some ⟨V0cb.heap.size, 0, none⟩) 32 32] 22))
        obtain ⟨V0cbdar, hVn⟩ : ∃ V, V0cbda.alloc (.cells #[.slice (some ⟨V0cbd.heap.size, 0, none⟩) 32 32, .slice (some ⟨V0c.heap.size, 0, none⟩) 32 32, .slice (some ⟨V0.heap.size, 0, none⟩) 32 32, .slice (some ⟨V0cb.heap.size, 0, none⟩) 32 32] 22) = V := ⟨_, rfl⟩
        have HR2 : Hid (Rw w.heap.size V0cbdar V0cbda.heap.size 4 4 (fun k => [V0cbd.heap.size, V0c.heap.size, V0.heap.size, V0cb.heap.size].getD k 0) (fun _ => 32) [z32, z32, z32, z32]) := Lib.hid (by rw [← hVn]; exact HR.out)
        rw [hVn] at HS0 ⊢
        clear hVn HR
        try dsimp only
        refine ⟨HS0.out, ?_⟩
        try simp only [Act.put, List.getElem_toArray, List.getElem_cons_succ, List.getElem_cons_zero, List.setIfInBounds_toArray, List.set_cons_zero, List.set_cons_succ]
        refine anyI_tail (by kernel_rfl) ?_
        try simp only [List.drop_succ_cons, List.drop_zero]
        clear R
        go_wp2_with fail
        refine NoPanic.normal ?_
        go_wp2_with fail
        exact HK.out _ _ _ _ _ _ _ _ _ HR2.out HS0.out
    · try simp only [List.getElem_toArray, List.getElem_cons_succ, List.getElem_cons_zero]
      refine opE_step ?_
      rw [if_pos (by rfl)]
      go_simp
      replace HS0 := Lib.hid (HS0.out.alloc HS0.out.size (.cells (zcells 32) 5))
      replace HM := Lib.hid HM.out.push
      obtain ⟨V0cd, hVn⟩ : ∃ V, V0c.alloc (.cells (zcells 32) 5) = V := ⟨_, rfl⟩
      have HzV0cd := Lib.hid (show V0c.heap.size < V0cd.heap.size by rw [← hVn]; simp)
      rw [hVn] at HS0 HM ⊢
      clear hVn
      try dsimp only
      refine ⟨HS0.out, ?_⟩
      try simp only [Act.put, List.getElem_toArray, List.getElem_cons_succ, List.getElem_cons_zero, List.setIfInBounds_toArray, List.set_cons_zero, List.set_cons_succ]
      refine anyI_two 0 1 (by kernel_rfl) rfl rfl ?_ ?_
      · try simp only [List.getElem_toArray, List.getElem_cons_succ, List.getElem_cons_zero]
        refine opE_step ?_
        rw [if_pos (by rfl)]
        go_simp
        replace HS0 := Lib.hid (HS0.out.alloc HS0.out.size (.cells (zcells 32) 5))
        replace HM := Lib.hid HM.out.push
        obtain ⟨V0cda, hVn⟩ : ∃ V, V0cd.alloc (.cells (zcells 32) 5) = V := ⟨_, rfl⟩
        have HzV0cda := Lib.hid (show V0cd.heap.size < V0cda.heap.size by rw [← hVn]; simp)
        rw [hVn] at HS0 HM ⊢
        clear hVn
        try dsimp only
        refine ⟨HS0.out, ?_⟩
        try simp only [Act.put, List.getElem_toArray, List.getElem_cons_succ, List.getElem_cons_zero, List.setIfInBounds_toArray, List.set_cons_zero, List.set_cons_succ]
        refine anyI_one 1 (by kernel_rfl) rfl ?_
        try simp only [List.getElem_toArray, List.getElem_cons_succ, List.getElem_cons_zero]
        refine opE_step ?_
        rw [if_pos (by rfl)]
        go_simp
        replace HS0 := Lib.hid (HS0.out.alloc HS0.out.size (.cells (zcells 32) 5))
        replace HM := Lib.hid HM.out.push
        obtain ⟨V0cdab, hVn⟩ : ∃ V, V0cda.alloc (.cells (zcells 32) 5) = V := ⟨_, rfl⟩
        have HzV0cdab := Lib.hid (show V0cda.heap.size < V0cdab.heap.size by rw [← hVn]; simp)
        rw [hVn] at HS0 HM ⊢
        clear hVn
        try dsimp only
        refine ⟨HS0.out, ?_⟩
        try simp only [Act.put, List.getElem_toArray, List.getElem_cons_succ, List.getElem_cons_zero, List.setIfInBounds_toArray, List.set_cons_zero, List.set_cons_succ]
        refine anyI_one 4 (by kernel_rfl) rfl ?_
        try simp only [List.getElem_toArray, List.getElem_cons_succ, List.getElem_cons_zero]
        refine opE_step ?_
        rw [if_pos (by rfl)]
        go_simp
        have HR := Lib.hid (HM.out.row [V0cd.heap.size, V0cda.heap.size, V0.heap.size, V0c.heap.size] (by simp) (fun b hb => by simp only [List.mem_cons, List.not_mem_nil, or_false] at hb ⊢; rcases hb with rfl | rfl | rfl | rfl <;> simp) (by have hn := HM.out.nd; simp only [List.nodup_cons, List.mem_cons, List.not_mem_nil, or_false, not_or, List.nodup_nil, and_true, not_false_eq_true] at hn ⊢; omega))
        replace HS0 := Lib.hid (HS0.out.alloc HS0.out.size (.cells #[.slice (some ⟨V0cd.heap.size, 0, none⟩) 32 32, .slice (some ⟨V0cda.heap.size, 0, none⟩) 32 32, .slice (some ⟨V0.heap.size, 0, none⟩) 32 32, .slice (some ⟨V0c.heap.size, 0, none⟩) 32 32] 22))
        obtain ⟨V0cdabr, hVn⟩ : ∃ V, V0cdab.alloc (.cells #[.slice (some ⟨V0cd.heap.size, 0, none⟩) 32 32, .slice (some ⟨V0cda.heap.size, 0, none⟩) 32 32, .slice (some ⟨V0.heap.size, 0, none⟩) 32 32, .slice (some ⟨V0c.heap.size, 0, none⟩) 32 32] 22) = V := ⟨_, rfl⟩
        have HR2 : Hid (Rw w.heap.size V0cdabr V0cdab.heap.size 4 4 (fun k => [V0cd.heap.size, V0cda.heap.size, V0.heap.size, V0c.heap.size].getD k 0) (fun _ => 32) [z32, z32, z32, z32]) := Lib.hid (by rw [← hVn]; exact HR.out)
        rw [hVn] at HS0 ⊢
        clear hVn HR
        try dsimp only
        refine ⟨HS0.out, ?_⟩
        try simp only [Act.put, List.getElem_toArray, List.getElem_cons_succ, List.getElem_cons_zero, List.setIfInBounds_toArray, List.set_cons_zero, List.set_cons_succ]
        refine anyI_tail (by kernel_rfl) ?_
        try simp only [List.drop_succ_cons, List.drop_zero]
        clear R
        go_wp2_with fail
        refine NoPanic.normal ?_
        go_wp2_with fail
        exact HK.out _ _ _ _ _ _ _ _ _ HR2.out HS0.out
      · try simp only [List.getElem_toArray, List.getElem_cons_succ, List.getElem_cons_zero]
        refine opE_step ?_
        rw [if_pos (by rfl)]
        go_simp
        replace HS0 := Lib.hid (HS0.out.alloc HS0.out.size (.cells (zcells 32) 5))
        replace HM := Lib.hid HM.out.push
        obtain ⟨V0cdb, hVn⟩ : ∃ V, V0cd.alloc (.cells (zcells 32) 5) = V := ⟨_, rfl⟩
        have HzV0cdb := Lib.hid (show V0cd.heap.size < V0cdb.heap.size by rw [← hVn]; simp)
        rw [hVn] at HS0 HM ⊢
        clear hVn
        try dsimp only
        refine ⟨HS0.out, ?_⟩
        try simp only [Act.put, List.getElem_toArray, List.getElem_cons_succ, List.getElem_cons_zero, List.setIfInBounds_toArray, List.set_cons_zero, List.set_cons_succ]
        refine anyI_one 0 (by kernel_rfl) rfl ?_
        try simp only [List.getElem_toArray, List.getElem_cons_succ, List.getElem_cons_zero]
        refine opE_step ?_
        rw [if_pos (by rfl)]
        go_simp
        replace HS0 := Lib.hid (HS0.out.alloc HS0.out.size (.cells (zcells 32) 5))
        replace HM := Lib.hid HM.out.push
        obtain ⟨V0cdba, hVn⟩ : ∃ V, V0cdb.alloc (.cells (zcells 32) 5) = V := ⟨_, rfl⟩
        have HzV0cdba := Lib.hid (show V0cdb.heap.size < V0cdba.heap.size by rw [← hVn]; simp)
        rw [hVn] at HS0 HM ⊢
        clear hVn
        try dsimp only
        refine ⟨HS0.out, ?_⟩
        try simp only [Act.put, List.getElem_toArray, List.getElem_cons_succ, List.getElem_cons_zero, List.setIfInBounds_toArray, List.set_cons_zero, List.set_cons_succ]
        refine anyI_one 4 (by kernel_rfl) rfl ?_
        try simp only [List.getElem_toArray, List.getElem_cons_succ, List.getElem_cons_zero]
        refine opE_step ?_
        rw [if_pos (by rfl)]
        go_simp
        have HR := Lib.hid (HM.out.row [V0cdb.heap.size, V0cd.heap.size, V0.heap.size, V0c.heap.size] (by simp) (fun b hb => by simp only [List.mem_cons, List.not_mem_nil, or_false] at hb ⊢; rcases hb with rfl | rfl | rfl | rfl <;> simp) (by have hn := HM.out.nd; simp only [List.nodup_cons, List.mem_cons, List.not_mem_nil, or_false, not_or, List.nodup_nil, and_true, not_false_eq_true] at hn ⊢; omega))
        replace HS0 := Lib.hid (HS0.out.alloc HS0.out.size (.cells #[.slice (some ⟨V0cdb.heap.size, 0, none⟩) 32 32, .slice (some ⟨V0cd.heap.size, 0, none⟩) 32 32, .slice (some ⟨V0.heap.size, 0, none⟩) 32 32, .slice (some ⟨V0c.heap.size, 0, none⟩) 32 32] 22))
        obtain ⟨V0cdbar, hVn⟩ : ∃ V, V0cdba.alloc (.cells #[.slice (some ⟨V0cdb.heap.size, 0, none⟩) 32 32, .slice (some ⟨V0cd.heap.size, 0, none⟩) 32 32, .slice (some ⟨V0.heap.size, 0, none⟩) 32 32, .slice (some ⟨V0c.heap.size, 0, none⟩) 32 32] 22) = V := ⟨_, rfl⟩
        have HR2 : Hid (Rw w.heap.size V0cdbar V0cdba.heap.size 4 4 (fun k => [V0cdb.heap.size, V0cd.heap.size, V0.heap.size, V0c.heap.size].getD k 0) (fun _ => 32) [z32, z32, z32, z32]) := Lib.hid (by rw [← hVn]; exact HR.out)
        rw [hVn] at HS0 ⊢
        clear hVn HR
        try dsimp only
        refine ⟨HS0.out, ?_⟩
        try simp only [Act.put, List.getElem_toArray, List.getElem_cons_succ, List.getElem_cons_zero, List.setIfInBounds_toArray, List.set_cons_zero, List.set_cons_succ]
        refine anyI_tail (by kernel_rfl) ?_
        try simp only [List.drop_succ_cons, List.drop_zero]
        clear R
        go_wp2_with fail
        refine NoPanic.normal ?_
        go_wp2_with fail
        exact HK.out _ _ _ _ _ _ _ _ _ HR2.out HS0.out
  · try simp only [List.getElem_toArray, List.getElem_cons_succ, List.getElem_cons_zero]
    refine opE_step ?_
    rw [if_pos (by rfl)]
    go_simp
    replace HS0 := Lib.hid (HS0.out.alloc HS0.out.size (.cells (zcells 32) 5))
    replace HM := Lib.hid HM.out.push
    obtain ⟨V0d, hVn⟩ : ∃ V, V0.alloc (.cells (zcells 32) 5) = V := ⟨_, rfl⟩
    have HzV0d := Lib.hid (show V0.heap.size < V0d.heap.size by rw [← hVn]; simp)
    rw [hVn] at HS0 HM ⊢
    clear hVn
    try dsimp only
    refine ⟨HS0.out, ?_⟩
    try simp only [Act.put, List.getElem_toArray, List.getElem_cons_succ, List.getElem_cons_zero, List.setIfInBounds_toArray, List.set_cons_zero, List.set_cons_succ]
    refine anyI_three 0 1 2 (by kernel_rfl) rfl rfl rfl ?_ ?_ ?_
    · try simp only [List.getElem_toArray, List.getElem_cons_succ, List.getElem_cons_zero]
      refine opE_step ?_
      rw [if_pos (by rfl)]
      go_simp
      replace HS0 := Lib.hid (HS0.out.alloc HS0.out.size (.cells (zcells 32) 5))
      replace HM := Lib.hid HM.out.push
      obtain ⟨V0da, hVn⟩ : ∃ V, V0d.alloc (.cells (zcells 32) 5) = V := ⟨_, rfl⟩
      have HzV0da := Lib.hid (show V0d.heap.size < V0da.heap.size by rw [← hVn]; simp)
      rw [hVn] at HS0 HM ⊢
      clear hVn
      try dsimp only
      refine ⟨HS0.out, ?_⟩
      try simp only [Act.put, List.getElem_toArray, List.getElem_cons_succ, List.getElem_cons_zero, List.setIfInBounds_toArray, List.set_cons_zero, List.set_cons_succ]
      refine anyI_two 1 2 (by kernel_rfl) rfl rfl ?_ ?_
      · try simp only [List.getElem_toArray, List.getElem_cons_succ, List.getElem_cons_zero]
        refine opE_step ?_
        rw [if_pos (by rfl)]
        go_simp
        replace HS0 := Lib.hid (HS0.out.alloc HS0.out.size (.cells (zcells 32) 5))
        replace HM := Lib.hid HM.out.push
        obtain ⟨V0dab, hVn⟩ : ∃ V, V0da.alloc (.cells (zcells 32) 5) = V := ⟨_, rfl⟩
        have HzV0dab := Lib.hid (show V0da.heap.size < V0dab.heap.size by rw [← hVn]; simp)
        rw [hVn] at HS0 HM ⊢
        clear hVn
        try dsimp only
        refine ⟨HS0.out, ?_⟩
        try simp only [Act.put, List.getElem_toArray, List.getElem_cons_succ, List.getElem_cons_zero, List.setIfInBounds_toArray, List.set_cons_zero, List.set_cons_succ]
        refine anyI_one 2 (by kernel_rfl) rfl ?_
        try simp only [List.getElem_toArray, List.getElem_cons_succ, List.getElem_cons_zero]
        refine opE_step ?_
        rw [if_pos (by rfl)]
        go_simp
        replace HS0 := Lib.hid (HS0.out.alloc HS0.out.size (.cells (zcells 32) 5))
        replace HM := Lib.hid HM.out.push
        obtain ⟨V0dabc, hVn⟩ : ∃ V, V0dab.alloc (.cells (zcells 32) 5) = V := ⟨_, rfl⟩
        have HzV0dabc := Lib.hid (show V0dab.heap.size < V0dabc.heap.size by rw [← hVn]; simp)
        rw [hVn] at HS0 HM ⊢
        clear hVn
        try dsimp only
        refine ⟨HS0.out, ?_⟩
        try simp only [Act.put, List.getElem_toArray, List.getElem_cons_succ, List.getElem_cons_zero, List.setIfInBounds_toArray, List.set_cons_zero, List.set_cons_succ]
        refine anyI_one 4 (by kernel_rfl) rfl ?_
        try simp only [List.getElem_toArray, List.getElem_cons_succ, List.getElem_cons_zero]
        refine opE_step ?_
        rw [if_pos (by rfl)]
        go_simp
        have HR := Lib.hid (HM.out.row [V0d.heap.size, V0da.heap.size, V0dab.heap.size, V0.heap.size] (by simp) (fun b hb => by simp only [List.mem_cons, List.not_mem_nil, or_false] at hb ⊢; rcases hb with rfl | rfl | rfl | rfl <;> simp) (by have hn := HM.out.nd; simp only [List.nodup_cons, List.mem_cons, List.not_mem_nil, or_false, not_or, List.nodup_nil, and_true, not_false_eq_true] at hn ⊢; omega))
        replace HS0 := Lib.hid (HS0.out.alloc HS0.out.size (.cells #[.slice (some ⟨V0d.heap.size, 0, none⟩) 32 32, .slice (some ⟨V0da.heap.size, 0, none⟩) 32 32, .slice (some ⟨V0dab.heap.size, 0, none⟩) 32 32, .slice (some ⟨V0.heap.size, 0, none⟩) 32 32] 22))
        obtain ⟨V0dabcr, hVn⟩ : ∃ V, V0dabc.alloc (.cells #[.slice (some ⟨V0d.heap.size, 0, none⟩) 32 32, .slice (some ⟨V0da.heap.size, 0, none⟩) 32 32, .slice (some ⟨V0dab.heap.size, 0, none⟩) 32 32, .slice (some ⟨V0.heap.size, 0, none⟩) 32 32] 22) = V := ⟨_, rfl⟩
        have HR2 : Hid (Rw w.heap.size V0dabcr V0dabc.heap.size 4 4 (fun k => [V0d.heap.size, V0da.heap.size, V0dab.heap.size, V0.heap.size].getD k 0) (fun _ => 32) [z32, z32, z32, z32]) := Lib.hid (by rw [← hVn]; exact HR.out)
        rw [hVn] at HS0 ⊢
        clear hVn HR
        try dsimp only
        refine ⟨HS0.out, ?_⟩
        try simp only [Act.put, List.getElem_toArray, List.getElem_cons_succ, List.getElem_cons_zero, List.setIfInBounds_toArray, List.set_cons_zero, List.set_cons_succ]
        refine anyI_tail (by kernel_rfl) ?_
        try simp only [List.drop_succ_cons, List.drop_zero]
        clear R
        go_wp2_with fail
        refine NoPanic.normal ?_
        go_wp2_with fail
        exact HK.out _ _ _ _ _ _ _ _ _ HR2.out HS0.out
      · try simp only [List.getElem_toArray, List.getElem_cons_succ, List.getElem_cons_zero]
        refine opE_step ?_
        rw [if_pos (by rfl)]
        go_simp
        replace HS0 := Lib.hid (HS0.out.alloc HS0.out.size (.cells (zcells 32) 5))
        replace HM := Lib.hid HM.out.push
        obtain ⟨V0dac, hVn⟩ : ∃ V, V0da.alloc (.cells (zcells 32) 5) = V := ⟨_, rfl⟩
        have HzV0dac := Lib.hid (show V0da.heap.size < V0dac.heap.size by rw [← hVn]; simp)
        rw [hVn] at HS0 HM ⊢
        clear hVn
        try dsimp only
        refine ⟨HS0.out, ?_⟩
        try simp only [Act.put, List.getElem_toArray, List.getElem_cons_succ, List.getElem_cons_zero, List.setIfInBounds_toArray, List.set_cons_zero, List.set_cons_succ]
        refine anyI_one 1 (by kernel_rfl) rfl ?_
        try simp only [List.getElem_toArray, List.getElem_cons_succ, List.getElem_cons_zero]
        refine opE_step ?_
        rw [if_pos (by rfl)]
        go_simp
        replace HS0 := Lib.hid (HS0.out.alloc HS0.out.size (.cells (zcells 32) 5))
        replace HM := Lib.hid HM.out.push
        obtain ⟨V0dacb, hVn⟩ : ∃ V, V0dac.alloc (.cells (zcells 32) 5) = V := ⟨_, rfl⟩
        have HzV0dacb := Lib.hid (show V0dac.heap.size < V0dacb.heap.size by rw [← hVn]; simp)
        rw [hVn] at HS0 HM ⊢
        clear hVn
        try dsimp only
        refine ⟨HS0.out, ?_⟩
        try simp only [Act.put, List.getElem_toArray, List.getElem_cons_succ, List.getElem_cons_zero, List.setIfInBounds_toArray, List.set_cons_zero, List.set_cons_succ]
        refine anyI_one 4 (by kernel_rfl) rfl ?_
        try simp only [List.getElem_toArray, List.getElem_cons_succ, List.getElem_cons_zero]
        refine opE_step ?_
        rw [if_pos (by rfl)]
        go_simp
        have HR := Lib.hid (HM.out.row [V0d.heap.size, V0dac.heap.size, V0da.heap.size, V0.heap.size] (by simp) (fun b hb => by simp only [List.mem_cons, List.not_mem_nil, or_false] at hb ⊢; rcases hb with rfl | rfl | rfl | rfl <;> simp) (by have hn := HM.out.nd; simp only [List.nodup_cons, List.mem_cons, List.not_mem_nil, or_false, not_or, List.nodup_nil, and_true, not_false_eq_true] at hn ⊢; omega))
        replace HS0 := Lib.hid (HS0.out.alloc HS0.out.size (.cells #[.slice (some ⟨V0d.heap.size, 0, none⟩) 32 32, .slice (some ⟨V0dac.heap.size, 0, none⟩) 32 32, .slice (some ⟨V0da.heap.size, 0, none⟩) 32 32, .slice (some ⟨V0.heap.size, 0, none⟩) 32 32] 22))
        obtain ⟨V0dacbr, hVn⟩ : ∃ V, V0dacb.alloc (.cells #[.slice (some ⟨V0d.heap.size, 0, none⟩) 32 32, .slice (some ⟨V0dac.heap.size, 0, none⟩) 32 32, .slice (some ⟨V0da.heap.size, 0, none⟩) 32 32, .slice (some ⟨V0.heap.size, 0, none⟩) 32 32] 22) = V := ⟨_, rfl⟩
        have HR2 : Hid (Rw w.heap.size V0dacbr V0dacb.heap.size 4 4 (fun k => [V0d.heap.size, V0dac.heap.size, V0da.heap.size, V0.heap.size].getD k 0) (fun _ => 32) [z32, z32, z32, z32]) := Lib.hid (by rw [← hVn]; exact HR.out)
        rw [hVn] at HS0 ⊢
        clear hVn HR
        try dsimp only
        refine ⟨HS0.out, ?_⟩
        try simp only [Act.put, List.getElem_toArray, List.getElem_cons_succ, List.getElem_cons_zero, List.setIfInBounds_toArray, List.set_cons_zero, List.set_cons_succ]
        refine anyI_tail (by kernel_rfl) ?_
        try simp only [List.drop_succ_cons, List.drop_zero]
        clear R
        go_wp2_with fail
        refine NoPanic.normal ?_
        go_wp2_with fail
        exact HK.out _ _ _ _ _ _ _ _ _ HR2.out HS0.out
    · try simp only [List.getElem_toArray, List.getElem_cons_succ, List.getElem_cons_zero]
      refine opE_step ?_
      rw [if_pos (by rfl)]
      go_simp
      replace HS0 := Lib.hid (HS0.out.alloc HS0.out.size (.cells (zcells 32) 5))
      replace HM := Lib.hid HM.out.push
      obtain ⟨V0db, hVn⟩ : ∃ V, V0d.alloc (.cells (zcells 32) 5) = V := ⟨_, rfl⟩
      have HzV0db := Lib.hid (show V0d.heap.size < V0db.heap.size by rw [← hVn]; simp)
      rw [hVn] at HS0 HM ⊢
      clear hVn
      try dsimp only
      refine ⟨HS0.out, ?_⟩
      try simp only [Act.put, List.getElem_toArray, List.getElem_cons_succ, List.getElem_cons_zero, List.setIfInBounds_toArray, List.set_cons_zero, List.set_cons_succ]
      refine anyI_two 0 2 (by kernel_rfl) rfl rfl ?_ ?_
      · try simp only [List.getElem_toArray, List.getElem_cons_succ, List.getElem_cons_zero]
        refine opE_step ?_
        rw [if_pos (by rfl)]
        go_simp
        replace HS0 := Lib.hid (HS0.out.alloc HS0.out.size (.cells (zcells 32) 5))
        replace HM := Lib.hid HM.out.push
        obtain ⟨V0dba, hVn⟩ : ∃ V, V0db.alloc (.cells (zcells 32) 5) = V := ⟨_, rfl⟩
        have HzV0dba := Lib.hid (show V0db.heap.size < V0dba.heap.size by rw [← hVn]; simp)
        rw [hVn] at HS0 HM ⊢
        clear hVn
        try dsimp only
        refine ⟨HS0.out, ?_⟩
        try simp only [Act.put, List.getElem_toArray, List.getElem_cons_succ, List.getElem_cons_zero, List.setIfInBounds_toArray, List.set_cons_zero, List.set_cons_succ]
        refine anyI_one 2 (by kernel_rfl) rfl ?_
        try simp only [List.getElem_toArray, List.getElem_cons_succ, List.getElem_cons_zero]
        refine opE_step ?_
        rw [if_pos (by rfl)]
        go_simp
        replace HS0 := Lib.hid (HS0.out.alloc HS0.out.size (.cells (zcells 32) 5))
        replace HM := Lib.hid HM.out.push
        obtain ⟨V0dbac, hVn⟩ : ∃ V, V0dba.alloc (.cells (zcells 32) 5) = V := ⟨_, rfl⟩
        have HzV0dbac := Lib.hid (show V0dba.heap.size < V0dbac.heap.size by rw [← hVn]; simp)
        rw [hVn] at HS0 HM ⊢
        clear hVn
        try dsimp only
        refine ⟨HS0.out, ?_⟩
        try simp only [Act.put, List.getElem_toArray, List.getElem_cons_succ, List.getElem_cons_zero, List.setIfInBounds_toArray, List.set_cons_zero, List.set_cons_succ]
        refine anyI_one 4 (by kernel_rfl) rfl ?_
        try simp only [List.getElem_toArray, List.getElem_cons_succ, List.getElem_cons_zero]
        refine opE_step ?_
        rw [if_pos (by rfl)]
        go_simp
        have HR := Lib.hid (HM.out.row [V0db.heap.size, V0d.heap.size, V0dba.heap.size, V0.heap.size] (by simp) (fun b hb => by simp only [List.mem_cons, List.not_mem_nil, or_false] at hb ⊢; rcases hb with rfl | rfl | rfl | rfl <;> simp) (by have hn := HM.out.nd; simp only [List.nodup_cons, List.mem_cons, List.not_mem_nil, or_false, not_or, List.nodup_nil, and_true, not_false_eq_true] at hn ⊢; omega))
        replace HS0 := Lib.hid (HS0.out.alloc HS0.out.size (.cells #[.slice (some ⟨V0db.heap.size, 0, none⟩) 32 32, .slice (some ⟨V0d.heap.size, 0, none⟩) 32 32, .slice (some ⟨V0dba.heap.size, 0, none⟩) 32 32, .slice (some ⟨V0.heap.size, 0, none⟩) 32 32] 22))
        obtain ⟨V0dbacr, hVn⟩ : ∃ V, V0dbac.alloc (.cells #[.slice (some ⟨V0db.heap.size, 0, none⟩) 32 32, .slice (some ⟨V0d.heap.size, 0, none⟩) 32 32, .slice (some ⟨V0dba.heap.size, 0, none⟩) 32 32, .slice (some ⟨V0.heap.size, 0, none⟩) 32 32] 22) = V := ⟨_, rfl⟩
        have HR2 : Hid (Rw w.heap.size V0dbacr V0dbac.heap.size 4 4 (fun k => [V0db.heap.size, V0d.heap.size, V0dba.heap.size, V0.heap.size].getD k 0) (fun _ => 32) [z32, z32, z32, z32]) := Lib.hid (by rw [← hVn]; exact HR.out)
        rw [hVn] at HS0 ⊢
        clear hVn HR
        try dsimp only
        refine ⟨HS0.out, ?_⟩
        try simp only [Act.put, List.getElem_toArray, List.getElem_cons_succ, List.getElem_cons_zero, List.setIfInBounds_toArray, List.set_cons_zero, List.set_cons_succ]
        refine anyI_tail (by kernel_rfl) ?_
        try simp only [List.drop_succ_cons, List.drop_zero]
        clear R
        go_wp2_with fail
        refine NoPanic.normal ?_
        go_wp2_with fail
        exact HK.out _ _ _ _ _ _ _ _ _ HR2.out HS0.out
      · try simp only [List.getElem_toArray, List.getElem_cons_succ, List.getElem_cons_zero]
        refine opE_step ?_
        rw [if_pos (by rfl)]
        go_simp
        replace HS0 := Lib.hid (HS0.out.alloc HS0.out.size (.cells (zcells 32) 5))
        replace HM := Lib.hid HM.out.push
        obtain ⟨V0dbc, hVn⟩ : ∃ V, V0db.alloc (.cells (zcells 32) 5) = V := ⟨_, rfl⟩
        have HzV0dbc := Lib.hid (show V0db.heap.size < V0dbc.heap.size by rw [← hVn]; simp)
        rw [hVn] at HS0 HM ⊢
        clear hVn
        try dsimp only
        refine ⟨HS0.out, ?_⟩
        try simp only [Act.put, List.getElem_toArray, List.getElem_cons_succ, List.getElem_cons_zero, List.setIfInBounds_toArray, List.set_cons_zero, List.set_cons_succ]
        refine anyI_one 0 (by kernel_rfl) rfl ?_
        try simp only [List.getElem_toArray, List.getElem_cons_succ, List.getElem_cons_zero]
        refine opE_step ?_
        rw [if_pos (by rfl)]
        go_simp
        replace HS0 := Lib.hid (HS0.out.alloc HS0.out.size (.cells (zcells 32) 5))
        replace HM := Lib.hid HM.out.push
        obtain ⟨V0dbca, hVn⟩ : ∃ V, V0dbc.alloc (.cells (zcells 32) 5) = V := ⟨_, rfl⟩
        have HzV0dbca := Lib.hid (show V0dbc.heap.size < V0dbca.heap.size by rw [← hVn]; simp)
        rw [hVn] at HS0 HM ⊢
        clear hVn
        try dsimp only
        refine ⟨HS0.out, ?_⟩
        try simp only [Act.put, List.getElem_toArray, List.getElem_cons_succ, List.getElem_cons_zero, List.setIfInBounds_toArray, List.set_cons_zero, List.set_cons_succ]
        refine anyI_one 4 (by kernel_rfl) rfl ?_
        try simp only [List.getElem_toArray, List.getElem_cons_succ, List.getElem_cons_zero]
        refine opE_step ?_
        rw [if_pos (by rfl)]
        go_simp
        have HR := Lib.hid (HM.out.row [V0dbc.heap.size, V0d.heap.size, V0db.heap.size, V0.heap.size] (by simp) (fun b hb => by simp only [List.mem_cons, List.not_mem_nil, or_false] at hb ⊢; rcases hb with rfl | rfl | rfl | rfl <;> simp) (by have hn := HM.out.nd; simp only [List.nodup_cons, List.mem_cons, List.not_mem_nil, or_false, not_or, List.nodup_nil, and_true, not_false_eq_true] at hn ⊢; omega))
        replace HS0 := Lib.hid (HS0.out.alloc HS0.out.size (.cells #[.slice (some ⟨V0dbc.heap.size, 0, none⟩) 32 32, .slice (some ⟨V0d.heap.size, 0, none⟩) 32 32, .slice (some ⟨V0db.heap.size, 0, none⟩) 32 32, .slice (some ⟨V0.heap.size, 0, none⟩) 32 32] 22))
        obtain ⟨V0dbcar, hVn⟩ : ∃ V, V0dbca.alloc (.cells #[.slice (some ⟨V0dbc.heap.size, 0, none⟩) 32 32, .slice (some ⟨V0d.heap.size, 0, none⟩) 32 32, .slice (some ⟨V0db.heap.size, 0, none⟩) 32 32, .slice (some ⟨V0.heap.size, 0, none⟩) 32 32] 22) = V := ⟨_, rfl⟩
        have HR2 : Hid (Rw w.heap.size V0dbcar V0dbca.heap.size 4 4 (fun k => [V0dbc.heap.size, V0d.heap.size, V0db.heap.size, V0.heap.size].getD k 0) (fun _ => 32) [z32, z32, z32, z32]) := Lib.hid (by rw [← hVn]; exact HR.out)
        rw [hVn] at HS0 ⊢
        clear hVn HR
        try dsimp only
        refine ⟨HS0.out, ?_⟩
        try simp only [Act.put, List.getElem_toArray, List.getElem_cons_succ, List.getElem_cons_zero, List.setIfInBounds_toArray, List.set_cons_zero, List.set_cons_succ]
        refine anyI_tail (by kernel_rfl) ?_
        try simp only [List.drop_succ_cons, List.drop_zero]
        clear R
        go_wp2_with fail
        refine NoPanic.normal ?_
        go_wp2_with fail
        exact HK.out _ _ _ _ _ _ _ _ _ HR2.out HS0.out
    · try simp only [List.getElem_toArray, List.getElem_cons_succ, List.getElem_cons_zero]
      refine opE_step ?_
      rw [if_pos (by rfl)]
      go_simp
      replace HS0 := Lib.hid (HS0.out.alloc HS0.out.size (.cells (zcells 32) 5))
      replace HM := Lib.hid HM.out.push
      obtain ⟨V0dc, hVn⟩ : ∃ V, V0d.alloc (.cells (zcells 32) 5) = V := ⟨_, rfl⟩
      have HzV0dc := Lib.hid (show V0d.heap.size < V0dc.heap.size by rw [← hVn]; simp)
      rw [hVn] at HS0 HM ⊢
      clear hVn
      try dsimp only
      refine ⟨HS0.out, ?_⟩
      try simp only [Act.put, List.getElem_toArray, List.getElem_cons_succ, List.getElem_cons_zero, List.setIfInBounds_toArray, List.set_cons_zero, List.set_cons_succ]
      refine anyI_two 0 1 (by kernel_rfl) rfl rfl ?_ ?_
      · try simp only [List.getElem_toArray, List.getElem_cons_succ, List.getElem_cons_zero]
        refine opE_step ?_
        rw [if_pos (by rfl)]
        go_simp
        replace HS0 := Lib.hid (HS0.out.alloc HS0.out.size (.cells (zcells 32) 5))
        replace HM := Lib.hid HM.out.push
        obtain ⟨V0dca, hVn⟩ : ∃ V, V0dc.alloc (.cells (zcells 32) 5) = V := ⟨_, rfl⟩
        have HzV0dca := Lib.hid (show V0dc.heap.size < V0dca.heap.size by rw [← hVn]; simp)
        rw [hVn] at HS0 HM ⊢
        clear hVn
        try dsimp only
        refine ⟨HS0.out, ?_⟩
        try simp only [Act.put, List.getElem_toArray, List.getElem_cons_succ, List.getElem_cons_zero, List.setIfInBounds_toArray, List.set_cons_zero, List.set_cons_succ]
        refine anyI_one 1 (by kernel_rfl) rfl ?_
        try simp only [List.getElem_toArray, List.getElem_cons_succ, List.getElem_cons_zero]
        refine opE_step ?_
        rw [if_pos (by rfl)]
        go_simp
        replace HS0 := Lib.hid (HS0.out.alloc HS0.out.size (.cells (zcells 32) 5))
        replace HM := Lib.hid HM.out.push
        obtain ⟨V0dcab, hVn⟩ : ∃ V, V0dca.alloc (.cells (zcells 32) 5) = V := ⟨_, rfl⟩
        have HzV0dcab := Lib.hid (show V0dca.heap.size < V0dcab.heap.size by rw [← hVn]; simp)
        rw [hVn] at HS0 HM ⊢
        clear hVn
        try dsimp only
        refine ⟨HS0.out, ?_⟩
        try simp only [Act.put, List.getElem_toArray, List.getElem_cons_succ, List.getElem_cons_zero, List.setIfInBounds_toArray, List.set_cons_zero, List.set_cons_succ]
        refine anyI_one 4 (by kernel_rfl) rfl ?_
        try simp only [List.getElem_toArray, List.getElem_cons_succ, List.getElem_cons_zero]
        refine opE_step ?_
        rw [if_pos (by rfl)]
        go_simp
        have HR := Lib.hid (HM.out.row [V0dc.heap.size, V0dca.heap.size, V0d.heap.size, V0.heap.size] (by simp) (fun b hb => by simp only [List.mem_cons, List.not_mem_nil, or_false] at hb ⊢; rcases hb with rfl | rfl | rfl | rfl <;> simp) (by have hn := HM.out.nd; simp only [List.nodup_cons, List.mem_cons, List.not_mem_nil, or_false, not_or, List.nodup_nil, and_true, not_false_eq_true] at hn ⊢; omega))
        replace HS0 := Lib.hid (HS0.out.alloc HS0.out.size (.cells #[.slice (some ⟨V0dc.heap.size, 0, none⟩) 32 32, .slice (some ⟨V0dca.heap.size, 0, none⟩) 32 32, .slice (some ⟨V0d.heap.size, 0, none⟩) 32 32, .slice (some ⟨V0.heap.size, 0, none⟩) 32 32] 22))
        obtain ⟨V0dcabr, hVn⟩ : ∃ V, V0dcab.alloc (.cells #[.slice (some ⟨V0dc.heap.size, 0, none⟩) 32 32, .slice (some ⟨V0dca.heap.size, 0, none⟩) 32 32, .slice (some ⟨V0d.heap.size, 0, none⟩) 32 32, .slice (some ⟨V0.heap.size, 0, none⟩) 32 32] 22) = V := ⟨_, rfl⟩
        have HR2 : Hid (Rw w.heap.size V0dcabr V0dcab.heap.size 4 4 (fun k => [V0dc.heap.size, V0dca.heap.size, V0d.heap.size, V0.heap.size].getD k 0) (fun _ => 32) [z32, z32, z32, z32]) := Lib.hid (by rw [← hVn]; exact HR.out)
        rw [hVn] at HS0 ⊢
        clear hVn HR
        try dsimp only
        refine ⟨HS0.out, ?_⟩
        try simp only [Act.put, List.getElem_toArray, List.getElem_cons_succ, List.getElem_cons_zero, List.setIfInBounds_toArray, List.set_cons_zero, List.set_cons_succ]
        refine anyI_tail (by kernel_rfl) ?_
        try simp only [List.drop_succ_cons, List.drop_zero]
        clear R
        go_wp2_with fail
        refine NoPanic.normal ?_
        go_wp2_with fail
        exact HK.out _ _ _ _ _ _ _ _ _ HR2.out HS0.out
      · try simp only [List.getElem_toArray, List.getElem_cons_succ, List.getElem_cons_zero]
        refine opE_step ?_
        rw [if_pos (by rfl)]
        go_simp
        replace HS0 := Lib.hid (HS0.out.alloc HS0.out.size (.cells (zcells 32) 5))
        replace HM := Lib.hid HM.out.push
        obtain ⟨V0dcb, hVn⟩ : ∃ V, V0dc.alloc (.cells (zcells 32) 5) = V := ⟨_, rfl⟩
        have HzV0dcb := Lib.hid (show V0dc.heap.size < V0dcb.heap.size by rw [← hVn]; simp)
        rw [hVn] at HS0 HM ⊢
        clear hVn
        try dsimp only
        refine ⟨HS0.out, ?_⟩
        try simp only [Act.put, List.getElem_toArray, List.getElem_cons_succ, List.getElem_cons_zero, List.setIfInBounds_toArray, List.set_cons_zero, List.set_cons_succ]
        refine anyI_one 0 (by kernel_rfl) rfl ?_
        try simp only [List.getElem_toArray, List.getElem_cons_succ, List.getElem_cons_zero]
        refine opE_step ?_
        rw [if_pos (by rfl)]
        go_simp
        replace HS0 := Lib.hid (HS0.out.alloc HS0.out.size (.cells (zcells 32) 5))
        replace HM := Lib.hid HM.out.push
        obtain ⟨V0dcba, hVn⟩ : ∃ V, V0dcb.alloc (.cells (zcells 32) 5) = V := ⟨_, rfl⟩
        have HzV0dcba := Lib.hid (show V0dcb.heap.size < V0dcba.heap.size by rw [← hVn]; simp)
        rw [hVn] at HS0 HM ⊢
        clear hVn
        try dsimp only
        refine ⟨HS0.out, ?_⟩
        try simp only [Act.put, List.getElem_toArray, List.getElem_cons_succ, List.getElem_cons_zero, List.setIfInBounds_toArray, List.set_cons_zero, List.set_cons_succ]
        refine anyI_one 4 (by kernel_rfl) rfl ?_
        try simp only [List.getElem_toArray, List.getElem_cons_succ, List.getElem_cons_zero]
        refine opE_step ?_
        rw [if_pos (by rfl)]
        go_simp
        have HR := Lib.hid (HM.out.row [V0dcb.heap.size, V0dc.heap.size, V0d.heap.size, V0.heap.size] (by simp) (fun b hb => by simp only [List.mem_cons, List.not_mem_nil, or_false] at hb ⊢; rcases hb with rfl | rfl | rfl | rfl <;> simp) (by have hn := HM.out.nd; simp only [List.nodup_cons, List.mem_cons, List.not_mem_nil, or_false, not_or, List.nodup_nil, and_true, not_false_eq_true] at hn ⊢; omega))
        replace HS0 := Lib.hid (HS0.out.alloc HS0.out.size (.cells #[.slice (some ⟨V0dcb.heap.size, 0, none⟩) 32 32, .slice (some ⟨V0dc.heap.size, 0, none⟩) 32 32, .slice (some ⟨V0d.heap.size, 0, none⟩) 32 32, .slice (some ⟨V0.heap.size, 0, none⟩) 32 32] 22))
        obtain ⟨V0dcbar, hVn⟩ : ∃ V, V0dcba.alloc (.cells #[.slice (some ⟨V0dcb.heap.size, 0, none⟩) 32 32, .slice (some ⟨V0dc.heap.size, 0, none⟩) 32 32, .slice (some ⟨V0d.heap.size, 0, none⟩) 32 32, .slice (some ⟨V0.heap.size, 0, none⟩) 32 32] 22) = V := ⟨_, rfl⟩
        have HR2 : Hid (Rw w.heap.size V0dcbar V0dcba.heap.size 4 4 (fun k => [V0dcb.heap.size, V0dc.heap.size, V0d.heap.size, V0.heap.size].getD k 0) (fun _ => 32) [z32, z32, z32, z32]) := Lib.hid (by rw [← hVn]; exact HR.out)
        rw [hVn] at HS0 ⊢
        clear hVn HR
        try dsimp only
        refine ⟨HS0.out, ?_⟩
        try simp only [Act.put, List.getElem_toArray, List.getElem_cons_succ, List.getElem_cons_zero, List.setIfInBounds_toArray, List.set_cons_zero, List.set_cons_succ]
        refine anyI_tail (by kernel_rfl) ?_
        try simp only [List.drop_succ_cons, List.drop_zero]
        clear R
        go_wp2_with fail
        refine NoPanic.normal ?_
        go_wp2_with fail
        exact HK.out _ _ _ _ _ _ _ _ _ HR2.out HS0.out
end Go.Proofs.YtfgiomidlfoonaaDoor
