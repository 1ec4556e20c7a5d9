/- Texts put together: StripeOnesLoops, StpNums, StripeOnesLaw. -/
import Derived.Test.YtpaegibaikpikaaSbbh
section
set_option linter.unusedVariables false
set_option linter.unusedSimpArgs false
namespace Go.Proofs.Ytpaegibaikpikaa
open Go.RowKit

noncomputable def codeSO : Code := Try.f7.body.getD .skip
set_option maxRecDepth 100000 in
set_option maxHeartbeats 3200000 in
theorem soAb {W0 : World} {n l c : Int} {D F W ρ b gb gl gn bx ox cx cn : Nat} {dat : List (List UInt8)} {lv : List Bool} {cur : Array Value} {H : BH} {N : Bch} {k : Nat} {w : World} (u0 u1 u2 u4 u5 u6 u7 u8 u9 u10 u14 u16 u18 u19 u20 u21 u22 u23 u24 u25 u26 u27 u28 u29 u30 u31 u32 u33 u34 u35 u36 u37 u38 u39 u40 u41 u42 u43 u44 u45 u46 u47 u48 u49 u50 u51 u52 u53 u54 u55 u56 u57 u58 u59 u60 u61 u62 u63 u64 u65 u66 u67 u68 u69 u70 u71 u72 u73 u77 u78 u79 u80 u81 u82 u83 u84 u85 u86 u87 u88 u89 u90 u91 u92 u93 u94 u95 u96 u97 u98 u99 u100 u101 u102 u103 u104 u105 u106 u107 u108 u109 u110 u111 u112 u113 u114 u115 u116 u117 u118 u119 u120 u121 u122 u123 u124 u125 u126 u127 u128 u129 u130 u131 u132 u133 u134 u135 u136 u137 u138 u139 u140 u141 u142 u143 u144 u145 u146 u147 u148 u149 u150 u151 u152 u153 u154 u155 : Value) (K : Act → World → Prop) (Q0 : Exit → Act → World → Prop) (gr : Gr n l c (ρ : Int) D F W) (hll : lv.length = D) (hdl : dat.length = W) (hdm : ∀ x ∈ dat, x.length = 32) (hcur : ∀ k, k < W → cur[k]? = some (.int .i64 (plN l (D : Int) c (ρ : Int) (k : Int)))) (h1 : ∀ k, k < W → soneE N lv l (D : Int) c (plN l (D : Int) c (ρ : Int) (k : Int)) = 0 ∧ soneB N lv l (D : Int) c (plN l (D : Int) c (ρ : Int) (k : Int)) = dat.getD k []) (hI : (k ≤ W ∧ KS W0 w b H N [(gn, Obj.cells cur 3 (0, 0)), (gl, Obj.cells (lv.map Value.bool).toArray 4 (0, 0)), (gb, Obj.cells #[.int .i64 l, .int .i64 (D : Int), .int .i64 c] 24 (0, 0))] [(some ⟨bx, ox, none⟩, dat)] []))
    (hK : ∀ (v10 v18 v19 v20 v21 v77 v78 v79 v80 v81 v82 v83 v84 v85 v86 v87 v88 v89 v90 v91 v92 v93 v94 v95 v96 v97 v98 v99 v100 : Value)  (V : World), ((k + 1) ≤ W ∧ KS W0 V b H N [(gn, Obj.cells cur 3 (0, 0)), (gl, Obj.cells (lv.map Value.bool).toArray 4 (0, 0)), (gb, Obj.cells #[.int .i64 l, .int .i64 (D : Int), .int .i64 c] 24 (0, 0))] [(some ⟨bx, ox, none⟩, dat)] []) → W - (k + 1) < W - k → K ⟨List.toArray (u0 :: u1 :: u2 :: (.int .i64 (ρ : Int)) :: u4 :: u5 :: u6 :: u7 :: u8 :: u9 :: v10 :: (.pointer (some ⟨gb, 0, none⟩)) :: (.pointer (some ⟨b, 0, none⟩)) :: (.slice (some ⟨gl, 0, none⟩) D D) :: u14 :: (.slice (some ⟨bx, ox, none⟩) W cx) :: u16 :: (.slice (some ⟨gn, 0, none⟩) W cn) :: v18 :: v19 :: v20 :: v21 :: u22 :: u23 :: u24 :: u25 :: u26 :: u27 :: u28 :: u29 :: u30 :: u31 :: u32 :: u33 :: u34 :: u35 :: u36 :: u37 :: u38 :: u39 :: u40 :: u41 :: u42 :: u43 :: u44 :: u45 :: u46 :: u47 :: u48 :: u49 :: u50 :: u51 :: u52 :: u53 :: u54 :: u55 :: u56 :: u57 :: u58 :: u59 :: u60 :: u61 :: u62 :: u63 :: u64 :: u65 :: u66 :: u67 :: u68 :: u69 :: u70 :: u71 :: u72 :: u73 :: (.slice (some ⟨gn, 0, none⟩) W cn) :: (.int .i64 (W : Int)) :: (.int .i64 (((k + 1) : Nat) : Int)) :: v77 :: v78 :: v79 :: v80 :: v81 :: v82 :: v83 :: v84 :: v85 :: v86 :: v87 :: v88 :: v89 :: v90 :: v91 :: v92 :: v93 :: v94 :: v95 :: v96 :: v97 :: v98 :: v99 :: v100 :: u101 :: u102 :: u103 :: u104 :: u105 :: u106 :: u107 :: u108 :: u109 :: u110 :: u111 :: u112 :: u113 :: u114 :: u115 :: u116 :: u117 :: u118 :: u119 :: u120 :: u121 :: u122 :: u123 :: u124 :: u125 :: u126 :: u127 :: u128 :: u129 :: u130 :: u131 :: u132 :: u133 :: u134 :: u135 :: u136 :: u137 :: u138 :: u139 :: u140 :: u141 :: u142 :: u143 :: u144 :: u145 :: u146 :: u147 :: u148 :: u149 :: u150 :: u151 :: u152 :: u153 :: u154 :: u155 :: []), []⟩ V)
    (hX : ∀ (v10 v18 v19 v20 v21 v77 v78 v79 v80 v81 v82 v83 v84 v85 v86 v87 v88 v89 v90 v91 v92 v93 v94 v95 v96 v97 v98 v99 v100 : Value), (k = W) → Q0 (.exit 0) ⟨List.toArray (u0 :: u1 :: u2 :: (.int .i64 (ρ : Int)) :: u4 :: u5 :: u6 :: u7 :: u8 :: u9 :: v10 :: (.pointer (some ⟨gb, 0, none⟩)) :: (.pointer (some ⟨b, 0, none⟩)) :: (.slice (some ⟨gl, 0, none⟩) D D) :: u14 :: (.slice (some ⟨bx, ox, none⟩) W cx) :: u16 :: (.slice (some ⟨gn, 0, none⟩) W cn) :: v18 :: v19 :: v20 :: v21 :: u22 :: u23 :: u24 :: u25 :: u26 :: u27 :: u28 :: u29 :: u30 :: u31 :: u32 :: u33 :: u34 :: u35 :: u36 :: u37 :: u38 :: u39 :: u40 :: u41 :: u42 :: u43 :: u44 :: u45 :: u46 :: u47 :: u48 :: u49 :: u50 :: u51 :: u52 :: u53 :: u54 :: u55 :: u56 :: u57 :: u58 :: u59 :: u60 :: u61 :: u62 :: u63 :: u64 :: u65 :: u66 :: u67 :: u68 :: u69 :: u70 :: u71 :: u72 :: u73 :: (.slice (some ⟨gn, 0, none⟩) W cn) :: (.int .i64 (W : Int)) :: (.int .i64 ((k : Nat) : Int)) :: v77 :: v78 :: v79 :: v80 :: v81 :: v82 :: v83 :: v84 :: v85 :: v86 :: v87 :: v88 :: v89 :: v90 :: v91 :: v92 :: v93 :: v94 :: v95 :: v96 :: v97 :: v98 :: v99 :: v100 :: u101 :: u102 :: u103 :: u104 :: u105 :: u106 :: u107 :: u108 :: u109 :: u110 :: u111 :: u112 :: u113 :: u114 :: u115 :: u116 :: u117 :: u118 :: u119 :: u120 :: u121 :: u122 :: u123 :: u124 :: u125 :: u126 :: u127 :: u128 :: u129 :: u130 :: u131 :: u132 :: u133 :: u134 :: u135 :: u136 :: u137 :: u138 :: u139 :: u140 :: u141 :: u142 :: u143 :: u144 :: u145 :: u146 :: u147 :: u148 :: u149 :: u150 :: u151 :: u152 :: u153 :: u154 :: u155 :: []), []⟩ w) :
    Code.wp Try.prog (sub [1, 1, 1, 1, 1, 1, 1, 1, 1, 1, 0, 1, 0, 0] codeSO) (Exit.then K Q0) ⟨List.toArray (u0 :: u1 :: u2 :: (.int .i64 (ρ : Int)) :: u4 :: u5 :: u6 :: u7 :: u8 :: u9 :: u10 :: (.pointer (some ⟨gb, 0, none⟩)) :: (.pointer (some ⟨b, 0, none⟩)) :: (.slice (some ⟨gl, 0, none⟩) D D) :: u14 :: (.slice (some ⟨bx, ox, none⟩) W cx) :: u16 :: (.slice (some ⟨gn, 0, none⟩) W cn) :: u18 :: u19 :: u20 :: u21 :: u22 :: u23 :: u24 :: u25 :: u26 :: u27 :: u28 :: u29 :: u30 :: u31 :: u32 :: u33 :: u34 :: u35 :: u36 :: u37 :: u38 :: u39 :: u40 :: u41 :: u42 :: u43 :: u44 :: u45 :: u46 :: u47 :: u48 :: u49 :: u50 :: u51 :: u52 :: u53 :: u54 :: u55 :: u56 :: u57 :: u58 :: u59 :: u60 :: u61 :: u62 :: u63 :: u64 :: u65 :: u66 :: u67 :: u68 :: u69 :: u70 :: u71 :: u72 :: u73 :: (.slice (some ⟨gn, 0, none⟩) W cn) :: (.int .i64 (W : Int)) :: (.int .i64 ((k : Nat) : Int)) :: u77 :: u78 :: u79 :: u80 :: u81 :: u82 :: u83 :: u84 :: u85 :: u86 :: u87 :: u88 :: u89 :: u90 :: u91 :: u92 :: u93 :: u94 :: u95 :: u96 :: u97 :: u98 :: u99 :: u100 :: u101 :: u102 :: u103 :: u104 :: u105 :: u106 :: u107 :: u108 :: u109 :: u110 :: u111 :: u112 :: u113 :: u114 :: u115 :: u116 :: u117 :: u118 :: u119 :: u120 :: u121 :: u122 :: u123 :: u124 :: u125 :: u126 :: u127 :: u128 :: u129 :: u130 :: u131 :: u132 :: u133 :: u134 :: u135 :: u136 :: u137 :: u138 :: u139 :: u140 :: u141 :: u142 :: u143 :: u144 :: u145 :: u146 :: u147 :: u148 :: u149 :: u150 :: u151 :: u152 :: u153 :: u154 :: u155 :: []), []⟩ w := by
  have HK := Lib.hid hK
  have HX := Lib.hid hX
  clear hK hX
  conv => arg 2; whnf
  obtain ⟨hkW, hk⟩ := hI
  have hd8 := gr.d8
  have hw7 := gr.w7
  by_cases hlt : k < W
  · have i0 : (0 : Int) ≤ (k : Int) := by omega
    have i1 : (k : Int) < (W : Int) := by omega
    have hc := (cell_of_row w gn k _ _ _ (hk.kx.kp _ (List.mem_cons_self ..)).1).trans (hcur k hlt)
    obtain ⟨g1, g2, g3⟩ := hk.gat (g := gb) (l := l) (d := (D : Int)) (c := c) (t := 24) (f := (0, 0)) (by simp)
    have CO := ks_one hk lv (some ⟨gl, 0, none⟩) D D hll.symm (hk.lv (g := gl) (t := 4) (f := (0, 0)) (lv := lv) (by simp) rfl (by omega)) l (D : Int) c (plN l (D : Int) c (ρ : Int) (k : Int)) gr.l64 gr.d64 gr.c64 (by have := (num_row (plDok_mk (k := (k : Int)) gr.ok (by omega) (by have := gr.wd; rw [gWid_yes (plOk_yes gr.ok).1] at this; omega))); have := gCap_bd l (D : Int) c; omega)
    rw [(h1 k hlt).1, (h1 k hlt).2] at CO
    have h32 : (dat.getD k []).length = 32 := hdm _ (by simp [List.getD_eq_getElem?_getD, show k < dat.length by omega])
    rw [h32] at CO
    have CO := Lib.hid CO
    generalize (plN l (D : Int) c (ρ : Int) (k : Int)) = z at hc CO
    clear hk HX hcur h1 hdm gr
    go_wp2_with fail
    (with_reducible refine CO.out.mono ?_); rintro e w1 ⟨A1, c1, rfl, k1, _⟩
    obtain ⟨A2, c2, z2, r2⟩ := (k1.rx (some ⟨bx, ox, none⟩, dat) (by simp)).cellAt (k := k) (by show k < dat.length; omega)
    dsimp only at z2 r2
    have CS := sameT_any (c := c1) (c' := c2) h32.symm h32.symm (k1.sl (A := A1) (bs := dat.getD k []) (by simp)) r2.rdb
    rw [h32] at z2
    have CS := Lib.hid CS
    have Kn := Lib.hid (k1.less (K' := [(gn, Obj.cells cur 3 (0, 0)), (gl, Obj.cells (lv.map Value.bool).toArray 4 (0, 0)), (gb, Obj.cells #[.int .i64 l, .int .i64 (D : Int), .int .i64 c] 24 (0, 0))]) (R' := [(some ⟨bx, ox, none⟩, dat)]) (S' := []) (fun _ h => h) (fun _ h => h) (fun _ h => absurd h (by simp)))
    clear k1 r2
    go_wp2_with fail
    (with_reducible refine CS.out.mono ?_); rintro e w2 ⟨rfl, m2, rfl⟩
    have K2 := Lib.hid (Kn.out.below (belowN _ _ m2))
    go_wp2_with fail
    exact HK.out _ _ _ _ _ _ _ _ _ _ _ _ _ _ _ _ _ _ _ _ _ _ _ _ _ _ _ _ _ _ ⟨by omega, K2.out⟩ (by omega)
  · have i1 : ¬ (k : Int) < (W : Int) := by omega
    have Hin := Lib.hid (show k = W by omega)
    clear HK hk
    go_wp2_with fail
    exact HX.out _ _ _ _ _ _ _ _ _ _ _ _ _ _ _ _ _ _ _ _ _ _ _ _ _ _ _ _ _ Hin.out
set_option maxRecDepth 100000 in
set_option maxHeartbeats 3200000 in
theorem soA {W0 : World} {n l c : Int} {D F W ρ b gb gl gn bx ox cx cn : Nat} {dat : List (List UInt8)} {lv : List Bool} {cur : Array Value} {H : BH} {N : Bch}  {w : World} (u0 u1 u2 u4 u5 u6 u7 u8 u9 u10 u14 u16 u18 u19 u20 u21 u22 u23 u24 u25 u26 u27 u28 u29 u30 u31 u32 u33 u34 u35 u36 u37 u38 u39 u40 u41 u42 u43 u44 u45 u46 u47 u48 u49 u50 u51 u52 u53 u54 u55 u56 u57 u58 u59 u60 u61 u62 u63 u64 u65 u66 u67 u68 u69 u70 u71 u72 u73 u77 u78 u79 u80 u81 u82 u83 u84 u85 u86 u87 u88 u89 u90 u91 u92 u93 u94 u95 u96 u97 u98 u99 u100 u101 u102 u103 u104 u105 u106 u107 u108 u109 u110 u111 u112 u113 u114 u115 u116 u117 u118 u119 u120 u121 u122 u123 u124 u125 u126 u127 u128 u129 u130 u131 u132 u133 u134 u135 u136 u137 u138 u139 u140 u141 u142 u143 u144 u145 u146 u147 u148 u149 u150 u151 u152 u153 u154 u155 : Value) (Q : Exit → Act → World → Prop) (gr : Gr n l c (ρ : Int) D F W) (hll : lv.length = D) (hdl : dat.length = W) (hdm : ∀ x ∈ dat, x.length = 32) (hcur : ∀ k, k < W → cur[k]? = some (.int .i64 (plN l (D : Int) c (ρ : Int) (k : Int)))) (h1 : ∀ k, k < W → soneE N lv l (D : Int) c (plN l (D : Int) c (ρ : Int) (k : Int)) = 0 ∧ soneB N lv l (D : Int) c (plN l (D : Int) c (ρ : Int) (k : Int)) = dat.getD k []) (hI : (0 ≤ W ∧ KS W0 w b H N [(gn, Obj.cells cur 3 (0, 0)), (gl, Obj.cells (lv.map Value.bool).toArray 4 (0, 0)), (gb, Obj.cells #[.int .i64 l, .int .i64 (D : Int), .int .i64 c] 24 (0, 0))] [(some ⟨bx, ox, none⟩, dat)] []))
    (hX : ∀ (v10 v18 v19 v20 v21 v77 v78 v79 v80 v81 v82 v83 v84 v85 v86 v87 v88 v89 v90 v91 v92 v93 v94 v95 v96 v97 v98 v99 v100 : Value) (k : Nat) (V : World), (k ≤ W ∧ KS W0 V b H N [(gn, Obj.cells cur 3 (0, 0)), (gl, Obj.cells (lv.map Value.bool).toArray 4 (0, 0)), (gb, Obj.cells #[.int .i64 l, .int .i64 (D : Int), .int .i64 c] 24 (0, 0))] [(some ⟨bx, ox, none⟩, dat)] []) → (k = W) → Q (.exit 0) ⟨List.toArray (u0 :: u1 :: u2 :: (.int .i64 (ρ : Int)) :: u4 :: u5 :: u6 :: u7 :: u8 :: u9 :: v10 :: (.pointer (some ⟨gb, 0, none⟩)) :: (.pointer (some ⟨b, 0, none⟩)) :: (.slice (some ⟨gl, 0, none⟩) D D) :: u14 :: (.slice (some ⟨bx, ox, none⟩) W cx) :: u16 :: (.slice (some ⟨gn, 0, none⟩) W cn) :: v18 :: v19 :: v20 :: v21 :: u22 :: u23 :: u24 :: u25 :: u26 :: u27 :: u28 :: u29 :: u30 :: u31 :: u32 :: u33 :: u34 :: u35 :: u36 :: u37 :: u38 :: u39 :: u40 :: u41 :: u42 :: u43 :: u44 :: u45 :: u46 :: u47 :: u48 :: u49 :: u50 :: u51 :: u52 :: u53 :: u54 :: u55 :: u56 :: u57 :: u58 :: u59 :: u60 :: u61 :: u62 :: u63 :: u64 :: u65 :: u66 :: u67 :: u68 :: u69 :: u70 :: u71 :: u72 :: u73 :: (.slice (some ⟨gn, 0, none⟩) W cn) :: (.int .i64 (W : Int)) :: (.int .i64 ((k : Nat) : Int)) :: v77 :: v78 :: v79 :: v80 :: v81 :: v82 :: v83 :: v84 :: v85 :: v86 :: v87 :: v88 :: v89 :: v90 :: v91 :: v92 :: v93 :: v94 :: v95 :: v96 :: v97 :: v98 :: v99 :: v100 :: u101 :: u102 :: u103 :: u104 :: u105 :: u106 :: u107 :: u108 :: u109 :: u110 :: u111 :: u112 :: u113 :: u114 :: u115 :: u116 :: u117 :: u118 :: u119 :: u120 :: u121 :: u122 :: u123 :: u124 :: u125 :: u126 :: u127 :: u128 :: u129 :: u130 :: u131 :: u132 :: u133 :: u134 :: u135 :: u136 :: u137 :: u138 :: u139 :: u140 :: u141 :: u142 :: u143 :: u144 :: u145 :: u146 :: u147 :: u148 :: u149 :: u150 :: u151 :: u152 :: u153 :: u154 :: u155 :: []), []⟩ V) :
    Code.wp Try.prog (.loop (sub [1, 1, 1, 1, 1, 1, 1, 1, 1, 1, 0, 1, 0, 0] codeSO)) Q ⟨List.toArray (u0 :: u1 :: u2 :: (.int .i64 (ρ : Int)) :: u4 :: u5 :: u6 :: u7 :: u8 :: u9 :: u10 :: (.pointer (some ⟨gb, 0, none⟩)) :: (.pointer (some ⟨b, 0, none⟩)) :: (.slice (some ⟨gl, 0, none⟩) D D) :: u14 :: (.slice (some ⟨bx, ox, none⟩) W cx) :: u16 :: (.slice (some ⟨gn, 0, none⟩) W cn) :: u18 :: u19 :: u20 :: u21 :: u22 :: u23 :: u24 :: u25 :: u26 :: u27 :: u28 :: u29 :: u30 :: u31 :: u32 :: u33 :: u34 :: u35 :: u36 :: u37 :: u38 :: u39 :: u40 :: u41 :: u42 :: u43 :: u44 :: u45 :: u46 :: u47 :: u48 :: u49 :: u50 :: u51 :: u52 :: u53 :: u54 :: u55 :: u56 :: u57 :: u58 :: u59 :: u60 :: u61 :: u62 :: u63 :: u64 :: u65 :: u66 :: u67 :: u68 :: u69 :: u70 :: u71 :: u72 :: u73 :: (.slice (some ⟨gn, 0, none⟩) W cn) :: (.int .i64 (W : Int)) :: (.int .i64 ((0 : Nat) : Int)) :: u77 :: u78 :: u79 :: u80 :: u81 :: u82 :: u83 :: u84 :: u85 :: u86 :: u87 :: u88 :: u89 :: u90 :: u91 :: u92 :: u93 :: u94 :: u95 :: u96 :: u97 :: u98 :: u99 :: u100 :: u101 :: u102 :: u103 :: u104 :: u105 :: u106 :: u107 :: u108 :: u109 :: u110 :: u111 :: u112 :: u113 :: u114 :: u115 :: u116 :: u117 :: u118 :: u119 :: u120 :: u121 :: u122 :: u123 :: u124 :: u125 :: u126 :: u127 :: u128 :: u129 :: u130 :: u131 :: u132 :: u133 :: u134 :: u135 :: u136 :: u137 :: u138 :: u139 :: u140 :: u141 :: u142 :: u143 :: u144 :: u145 :: u146 :: u147 :: u148 :: u149 :: u150 :: u151 :: u152 :: u153 :: u154 :: u155 :: []), []⟩ w := by
  refine wp_loop_ghost (fun gk a V => ∀ C : Prop, (∀ (u10 u18 u19 u20 u21 u77 u78 u79 u80 u81 u82 u83 u84 u85 u86 u87 u88 u89 u90 u91 u92 u93 u94 u95 u96 u97 u98 u99 u100 : Value) (k : Nat), gk = W - k → (k ≤ W ∧ KS W0 V b H N [(gn, Obj.cells cur 3 (0, 0)), (gl, Obj.cells (lv.map Value.bool).toArray 4 (0, 0)), (gb, Obj.cells #[.int .i64 l, .int .i64 (D : Int), .int .i64 c] 24 (0, 0))] [(some ⟨bx, ox, none⟩, dat)] []) → a = ⟨List.toArray (u0 :: u1 :: u2 :: (.int .i64 (ρ : Int)) :: u4 :: u5 :: u6 :: u7 :: u8 :: u9 :: u10 :: (.pointer (some ⟨gb, 0, none⟩)) :: (.pointer (some ⟨b, 0, none⟩)) :: (.slice (some ⟨gl, 0, none⟩) D D) :: u14 :: (.slice (some ⟨bx, ox, none⟩) W cx) :: u16 :: (.slice (some ⟨gn, 0, none⟩) W cn) :: u18 :: u19 :: u20 :: u21 :: u22 :: u23 :: u24 :: u25 :: u26 :: u27 :: u28 :: u29 :: u30 :: u31 :: u32 :: u33 :: u34 :: u35 :: u36 :: u37 :: u38 :: u39 :: u40 :: u41 :: u42 :: u43 :: u44 :: u45 :: u46 :: u47 :: u48 :: u49 :: u50 :: u51 :: u52 :: u53 :: u54 :: u55 :: u56 :: u57 :: u58 :: u59 :: u60 :: u61 :: u62 :: u63 :: u64 :: u65 :: u66 :: u67 :: u68 :: u69 :: u70 :: u71 :: u72 :: u73 :: (.slice (some ⟨gn, 0, none⟩) W cn) :: (.int .i64 (W : Int)) :: (.int .i64 ((k : Nat) : Int)) :: u77 :: u78 :: u79 :: u80 :: u81 :: u82 :: u83 :: u84 :: u85 :: u86 :: u87 :: u88 :: u89 :: u90 :: u91 :: u92 :: u93 :: u94 :: u95 :: u96 :: u97 :: u98 :: u99 :: u100 :: u101 :: u102 :: u103 :: u104 :: u105 :: u106 :: u107 :: u108 :: u109 :: u110 :: u111 :: u112 :: u113 :: u114 :: u115 :: u116 :: u117 :: u118 :: u119 :: u120 :: u121 :: u122 :: u123 :: u124 :: u125 :: u126 :: u127 :: u128 :: u129 :: u130 :: u131 :: u132 :: u133 :: u134 :: u135 :: u136 :: u137 :: u138 :: u139 :: u140 :: u141 :: u142 :: u143 :: u144 :: u145 :: u146 :: u147 :: u148 :: u149 :: u150 :: u151 :: u152 :: u153 :: u154 :: u155 :: []), []⟩ → C) → C) (W - 0) ?_ ?_
  · intro C hC
    exact hC _ _ _ _ _ _ _ _ _ _ _ _ _ _ _ _ _ _ _ _ _ _ _ _ _ _ _ _ _ (0) rfl hI rfl
  · intro gk a V hI'
    refine hI' _ ?_
    intro u10 u18 u19 u20 u21 u77 u78 u79 u80 u81 u82 u83 u84 u85 u86 u87 u88 u89 u90 u91 u92 u93 u94 u95 u96 u97 u98 u99 u100 k hk hinv ha
    subst ha
    subst hk
    refine soAb _ _ _ _ _ _ _ _ _ _ _ _ _ _ _ _ _ _ _ _ _ _ _ _ _ _ _ _ _ _ _ _ _ _ _ _ _ _ _ _ _ _ _ _ _ _ _ _ _ _ _ _ _ _ _ _ _ _ _ _ _ _ _ _ _ _ _ _ _ _ _ _ _ _ _ _ _ _ _ _ _ _ _ _ _ _ _ _ _ _ _ _ _ _ _ _ _ _ _ _ _ _ _ _ _ _ _ _ _ _ _ _ _ _ _ _ _ _ _ _ _ _ _ _ _ _ _ _ _ _ _ _ _ _ _ _ _ _ _ _ _ _ _ _ _ _ _ _ _ gr hll hdl hdm hcur h1 hinv (fun v10 v18 v19 v20 v21 v77 v78 v79 v80 v81 v82 v83 v84 v85 v86 v87 v88 v89 v90 v91 v92 v93 v94 v95 v96 v97 v98 v99 v100  V2 h2 hm => ?_) (fun v10 v18 v19 v20 v21 v77 v78 v79 v80 v81 v82 v83 v84 v85 v86 v87 v88 v89 v90 v91 v92 v93 v94 v95 v96 v97 v98 v99 v100 hx => hX v10 v18 v19 v20 v21 v77 v78 v79 v80 v81 v82 v83 v84 v85 v86 v87 v88 v89 v90 v91 v92 v93 v94 v95 v96 v97 v98 v99 v100 k V hinv hx)
    refine ⟨_, hm, fun C hC => ?_⟩
    exact hC v10 v18 v19 v20 v21 v77 v78 v79 v80 v81 v82 v83 v84 v85 v86 v87 v88 v89 v90 v91 v92 v93 v94 v95 v96 v97 v98 v99 v100 ((k + 1)) rfl h2 rfl
set_option maxRecDepth 100000 in
set_option maxHeartbeats 3200000 in
theorem soBb {W0 : World} {n l c : Int} {D F W ρ b gb gl gn bx ox cx cn dd : Nat} {dat : List (List UInt8)} {lv : List Bool} {cur : Array Value} {H : BH} {N : Bch} {k : Nat} {w : World} (u0 u1 u2 u4 u5 u6 u7 u8 u9 u10 u14 u16 u17 u18 u19 u20 u21 u23 u24 u25 u26 u27 u28 u29 u30 u31 u32 u33 u34 u35 u36 u37 u38 u39 u40 u41 u42 u43 u44 u45 u46 u47 u48 u49 u50 u51 u52 u53 u54 u55 u56 u57 u58 u59 u60 u61 u62 u63 u64 u65 u66 u67 u68 u69 u70 u71 u72 u73 u74 u75 u76 u77 u78 u79 u80 u81 u82 u83 u84 u85 u86 u87 u88 u89 u90 u91 u92 u93 u94 u95 u96 u97 u98 u99 u100 u101 u102 u103 u104 u105 u106 u107 u108 u109 u110 u111 u112 u113 u117 u118 u119 u120 u121 u122 u123 u124 u125 u126 u127 u128 u129 u130 u131 u132 u133 u134 u135 u136 u137 u138 u139 u140 u141 u142 u143 u144 u145 u146 u147 u148 u149 u150 u151 u152 u153 u154 u155 : Value) (K : Act → World → Prop) (Q0 : Exit → Act → World → Prop) (gr : Gr n l c (ρ : Int) D F W) (hll : lv.length = D) (hdl : dat.length = W) (hdm : ∀ x ∈ dat, x.length = 32) (hcur : ∀ k, k < W → cur[k]? = some (.int .i64 (plN l (D : Int) c (ρ : Int) (k : Int)))) (h1 : ∀ k, k < W → roS D F k ≠ dd → lv.getD (roS D F k) false = true → soneE N lv l (D : Int) c (plN l (D : Int) c (ρ : Int) (k : Int)) = 0 ∧ soneB N lv l (D : Int) c (plN l (D : Int) c (ρ : Int) (k : Int)) = dat.getD k []) (hI : (k ≤ W ∧ KS W0 w b H N [(gn, Obj.cells cur 3 (0, 0)), (gl, Obj.cells (lv.map Value.bool).toArray 4 (0, 0)), (gb, Obj.cells #[.int .i64 l, .int .i64 (D : Int), .int .i64 c] 24 (0, 0))] [(some ⟨bx, ox, none⟩, dat)] []))
    (hK : ∀ (v10 v23 v24 v25 v26 v27 v117 v118 v119 v120 v121 v122 v123 v124 v125 v126 v127 v128 v129 v130 v131 v132 v133 v134 v135 v136 v137 v138 v139 v140 v141 v142 v143 v144 v145 v146 v147 v148 v149 v150 v151 v152 v153 v154 : Value)  (V : World), ((k + 1) ≤ W ∧ KS W0 V b H N [(gn, Obj.cells cur 3 (0, 0)), (gl, Obj.cells (lv.map Value.bool).toArray 4 (0, 0)), (gb, Obj.cells #[.int .i64 l, .int .i64 (D : Int), .int .i64 c] 24 (0, 0))] [(some ⟨bx, ox, none⟩, dat)] []) → W - (k + 1) < W - k → K ⟨List.toArray (u0 :: u1 :: u2 :: (.int .i64 (ρ : Int)) :: u4 :: u5 :: u6 :: u7 :: u8 :: u9 :: v10 :: (.pointer (some ⟨gb, 0, none⟩)) :: (.pointer (some ⟨b, 0, none⟩)) :: (.slice (some ⟨gl, 0, none⟩) D D) :: u14 :: (.slice (some ⟨bx, ox, none⟩) W cx) :: u16 :: u17 :: u18 :: u19 :: u20 :: u21 :: (.int .i64 (dd : Int)) :: v23 :: v24 :: v25 :: v26 :: v27 :: u28 :: u29 :: u30 :: u31 :: u32 :: u33 :: u34 :: u35 :: u36 :: u37 :: u38 :: u39 :: u40 :: u41 :: u42 :: u43 :: u44 :: u45 :: u46 :: u47 :: u48 :: u49 :: u50 :: u51 :: u52 :: u53 :: u54 :: u55 :: u56 :: u57 :: u58 :: u59 :: u60 :: u61 :: u62 :: u63 :: u64 :: u65 :: u66 :: u67 :: u68 :: u69 :: u70 :: u71 :: u72 :: u73 :: u74 :: u75 :: u76 :: u77 :: u78 :: u79 :: u80 :: u81 :: u82 :: u83 :: u84 :: u85 :: u86 :: u87 :: u88 :: u89 :: u90 :: u91 :: u92 :: u93 :: u94 :: u95 :: u96 :: u97 :: u98 :: u99 :: u100 :: u101 :: u102 :: u103 :: u104 :: u105 :: u106 :: u107 :: u108 :: u109 :: u110 :: u111 :: u112 :: u113 :: (.slice (some ⟨gn, 0, none⟩) W cn) :: (.int .i64 (W : Int)) :: (.int .i64 (((k + 1) : Nat) : Int)) :: v117 :: v118 :: v119 :: v120 :: v121 :: v122 :: v123 :: v124 :: v125 :: v126 :: v127 :: v128 :: v129 :: v130 :: v131 :: v132 :: v133 :: v134 :: v135 :: v136 :: v137 :: v138 :: v139 :: v140 :: v141 :: v142 :: v143 :: v144 :: v145 :: v146 :: v147 :: v148 :: v149 :: v150 :: v151 :: v152 :: v153 :: v154 :: u155 :: []), []⟩ V)
    (hX : ∀ (v10 v23 v24 v25 v26 v27 v117 v118 v119 v120 v121 v122 v123 v124 v125 v126 v127 v128 v129 v130 v131 v132 v133 v134 v135 v136 v137 v138 v139 v140 v141 v142 v143 v144 v145 v146 v147 v148 v149 v150 v151 v152 v153 v154 : Value), (k = W) → Q0 (.exit 2) ⟨List.toArray (u0 :: u1 :: u2 :: (.int .i64 (ρ : Int)) :: u4 :: u5 :: u6 :: u7 :: u8 :: u9 :: v10 :: (.pointer (some ⟨gb, 0, none⟩)) :: (.pointer (some ⟨b, 0, none⟩)) :: (.slice (some ⟨gl, 0, none⟩) D D) :: u14 :: (.slice (some ⟨bx, ox, none⟩) W cx) :: u16 :: u17 :: u18 :: u19 :: u20 :: u21 :: (.int .i64 (dd : Int)) :: v23 :: v24 :: v25 :: v26 :: v27 :: u28 :: u29 :: u30 :: u31 :: u32 :: u33 :: u34 :: u35 :: u36 :: u37 :: u38 :: u39 :: u40 :: u41 :: u42 :: u43 :: u44 :: u45 :: u46 :: u47 :: u48 :: u49 :: u50 :: u51 :: u52 :: u53 :: u54 :: u55 :: u56 :: u57 :: u58 :: u59 :: u60 :: u61 :: u62 :: u63 :: u64 :: u65 :: u66 :: u67 :: u68 :: u69 :: u70 :: u71 :: u72 :: u73 :: u74 :: u75 :: u76 :: u77 :: u78 :: u79 :: u80 :: u81 :: u82 :: u83 :: u84 :: u85 :: u86 :: u87 :: u88 :: u89 :: u90 :: u91 :: u92 :: u93 :: u94 :: u95 :: u96 :: u97 :: u98 :: u99 :: u100 :: u101 :: u102 :: u103 :: u104 :: u105 :: u106 :: u107 :: u108 :: u109 :: u110 :: u111 :: u112 :: u113 :: (.slice (some ⟨gn, 0, none⟩) W cn) :: (.int .i64 (W : Int)) :: (.int .i64 ((k : Nat) : Int)) :: v117 :: v118 :: v119 :: v120 :: v121 :: v122 :: v123 :: v124 :: v125 :: v126 :: v127 :: v128 :: v129 :: v130 :: v131 :: v132 :: v133 :: v134 :: v135 :: v136 :: v137 :: v138 :: v139 :: v140 :: v141 :: v142 :: v143 :: v144 :: v145 :: v146 :: v147 :: v148 :: v149 :: v150 :: v151 :: v152 :: v153 :: v154 :: u155 :: []), []⟩ w) :
    Code.wp Try.prog (sub [1, 1, 1, 1, 1, 1, 1, 1, 1, 1, 1, 1, 1, 0, 1, 0, 0] codeSO) (Exit.then K Q0) ⟨List.toArray (u0 :: u1 :: u2 :: (.int .i64 (ρ : Int)) :: u4 :: u5 :: u6 :: u7 :: u8 :: u9 :: u10 :: (.pointer (some ⟨gb, 0, none⟩)) :: (.pointer (some ⟨b, 0, none⟩)) :: (.slice (some ⟨gl, 0, none⟩) D D) :: u14 :: (.slice (some ⟨bx, ox, none⟩) W cx) :: u16 :: u17 :: u18 :: u19 :: u20 :: u21 :: (.int .i64 (dd : Int)) :: u23 :: u24 :: u25 :: u26 :: u27 :: u28 :: u29 :: u30 :: u31 :: u32 :: u33 :: u34 :: u35 :: u36 :: u37 :: u38 :: u39 :: u40 :: u41 :: u42 :: u43 :: u44 :: u45 :: u46 :: u47 :: u48 :: u49 :: u50 :: u51 :: u52 :: u53 :: u54 :: u55 :: u56 :: u57 :: u58 :: u59 :: u60 :: u61 :: u62 :: u63 :: u64 :: u65 :: u66 :: u67 :: u68 :: u69 :: u70 :: u71 :: u72 :: u73 :: u74 :: u75 :: u76 :: u77 :: u78 :: u79 :: u80 :: u81 :: u82 :: u83 :: u84 :: u85 :: u86 :: u87 :: u88 :: u89 :: u90 :: u91 :: u92 :: u93 :: u94 :: u95 :: u96 :: u97 :: u98 :: u99 :: u100 :: u101 :: u102 :: u103 :: u104 :: u105 :: u106 :: u107 :: u108 :: u109 :: u110 :: u111 :: u112 :: u113 :: (.slice (some ⟨gn, 0, none⟩) W cn) :: (.int .i64 (W : Int)) :: (.int .i64 ((k : Nat) : Int)) :: u117 :: u118 :: u119 :: u120 :: u121 :: u122 :: u123 :: u124 :: u125 :: u126 :: u127 :: u128 :: u129 :: u130 :: u131 :: u132 :: u133 :: u134 :: u135 :: u136 :: u137 :: u138 :: u139 :: u140 :: u141 :: u142 :: u143 :: u144 :: u145 :: u146 :: u147 :: u148 :: u149 :: u150 :: u151 :: u152 :: u153 :: u154 :: u155 :: []), []⟩ w := by
  have HK := Lib.hid hK
  have HX := Lib.hid hX
  clear hK hX
  conv => arg 2; whnf
  obtain ⟨hkW, hk⟩ := hI
  have hd8 := gr.d8
  have hw7 := gr.w7
  by_cases hlt : k < W
  · have i0 : (0 : Int) ≤ (k : Int) := by omega
    have i1 : (k : Int) < (W : Int) := by omega
    have hc := (cell_of_row w gn k _ _ _ (hk.kx.kp _ (List.mem_cons_self ..)).1).trans (hcur k hlt)
    obtain ⟨g1, g2, g3⟩ := hk.gat (g := gb) (l := l) (d := (D : Int)) (c := c) (t := 24) (f := (0, 0)) (by simp)
    have hown := roS_lt gr.hF (k := k) (by have := gr.hW; omega)
    have CD := Lib.hid (fun V => show Calls Try.prog 37 #[.agg #[.int .i64 l, .int .i64 (D : Int), .int .i64 c], .int .i64 (ρ : Int), .int .i64 (k : Int)] V fun e w' => e = .returned (.int .i64 ((roS D F k : Nat) : Int)) ∧ Below V.heap.size V w' by
      have := refDisk_any l (D : Int) c (ρ : Int) (k : Int) V gr.l64 gr.d64 gr.c64 gr.r64 (by omega)
      rwa [gr.R.pD k (by rw [gr.eW]; exact hlt), gr.eD, gr.eF] at this)
    have Hh := Lib.hid hk
    by_cases e1 : roS D F k = dd
    · have e2 : (((roS D F k : Nat) : Int) == (dd : Int)) = true := by rw [e1]; exact beq_self_eq_true _
      clear hk HX hcur h1 hdm gr e1
      generalize roS D F k = own at *
      go_wp2_with fail
      (with_reducible refine (CD.out _).mono ?_); rintro e w1 ⟨rfl, hb1⟩
      have K1 := Lib.hid (Hh.out.below hb1)
      go_wp2_with fail
      exact HK.out _ _ _ _ _ _ _ _ _ _ _ _ _ _ _ _ _ _ _ _ _ _ _ _ _ _ _ _ _ _ _ _ _ _ _ _ _ _ _ _ _ _ _ _ _ ⟨by omega, K1.out⟩ (by omega)
    · have e2 : (((roS D F k : Nat) : Int) == (dd : Int)) = false := by rw [beq_eq_false_iff_ne]; omega
      have z0 : (0 : Int) ≤ ((roS D F k : Nat) : Int) := by omega
      have z1 : ((roS D F k : Nat) : Int) < (D : Int) := by omega
      have hlc : w.cell? ⟨gl, roS D F k, none⟩ = some (.bool (lv.getD (roS D F k) false)) := by
        obtain ⟨b', off, e, _, _, h2⟩ := (hk.lv (g := gl) (t := 4) (f := (0, 0)) (lv := lv) (by simp) rfl (by omega)).2 (by omega)
        injection e with e
        injection e with e3 e4 _
        subst e3 e4
        have := h2 (roS D F k) (by omega)
        rwa [Nat.zero_add] at this
      have hgl := World.block_lt_of_cell? _ _ hlc
      cases hx : lv.getD (roS D F k) false with
      | false =>
        rw [hx] at hlc
        clear hk HX hcur h1 hdm gr e1
        generalize roS D F k = own at *
        go_wp2_with fail
        (with_reducible refine (CD.out _).mono ?_); rintro e w1 ⟨rfl, hb1⟩
        have K1 := Lib.hid (Hh.out.below hb1)
        have hlc1 := (hb1.cell (p := ⟨gl, own, none⟩) hgl).trans hlc
        go_wp2_with fail
        exact HK.out _ _ _ _ _ _ _ _ _ _ _ _ _ _ _ _ _ _ _ _ _ _ _ _ _ _ _ _ _ _ _ _ _ _ _ _ _ _ _ _ _ _ _ _ _ ⟨by omega, K1.out⟩ (by omega)
      | true =>
        rw [hx] at hlc
        have h32 : (dat.getD k []).length = 32 := hdm _ (by simp [List.getD_eq_getElem?_getD, show k < dat.length by omega])
        have COf := Lib.hid (fun V (hb : Below w.heap.size w V) => show Calls Try.prog 23 #[.pointer (some ⟨b, 0, none⟩), .slice (some ⟨gl, 0, none⟩) D D, .agg #[.int .i64 l, .int .i64 (D : Int), .int .i64 c], .int .i64 (plN l (D : Int) c (ρ : Int) (k : Int))] V fun e w' => ∃ A' c', e = .returned (.tuple #[.slice A' 32 c', .int .i64 0]) ∧ KS W0 w' b H N [(gn, Obj.cells cur 3 (0, 0)), (gl, Obj.cells (lv.map Value.bool).toArray 4 (0, 0)), (gb, Obj.cells #[.int .i64 l, .int .i64 (D : Int), .int .i64 c] 24 (0, 0))] [(some ⟨bx, ox, none⟩, dat)] ((A', dat.getD k []) :: []) ∧ Below V.heap.size V w' by
          have CO := ks_one (Hh.out.below hb) lv (some ⟨gl, 0, none⟩) D D hll.symm ((Hh.out.below hb).lv (g := gl) (t := 4) (f := (0, 0)) (lv := lv) (by simp) rfl (by omega)) l (D : Int) c (plN l (D : Int) c (ρ : Int) (k : Int)) gr.l64 gr.d64 gr.c64 (by have := (num_row (plDok_mk (k := (k : Int)) gr.ok (by omega) (by have := gr.wd; rw [gWid_yes (plOk_yes gr.ok).1] at this; omega))); have := gCap_bd l (D : Int) c; omega)
          rw [(h1 k hlt e1 hx).1, (h1 k hlt e1 hx).2, h32] at CO
          exact CO)
        generalize (plN l (D : Int) c (ρ : Int) (k : Int)) = z at hc COf
        clear hk HX hcur h1 hdm gr e1 hx
        generalize roS D F k = own at *
        go_wp2_with fail
        (with_reducible refine (CD.out _).mono ?_); rintro e w0 ⟨rfl, hb1⟩
        have hlc1 := (hb1.cell (p := ⟨gl, own, none⟩) hgl).trans hlc
        have CO := Lib.hid (COf.out _ hb1)
        obtain ⟨g4, g5, g6⟩ := (Hh.out.below hb1).gat (g := gb) (l := l) (d := (D : Int)) (c := c) (t := 24) (f := (0, 0)) (by simp)
        clear hb1 g1 g2 g3 COf
        go_wp2_with fail
        (with_reducible refine CO.out.mono ?_); rintro e w1 ⟨A1, c1, rfl, k1, _⟩
        obtain ⟨A2, c2, z2, r2⟩ := (k1.rx (some ⟨bx, ox, none⟩, dat) (by simp)).cellAt (k := k) (by show k < dat.length; omega)
        dsimp only at z2 r2
        have CS := sameT_any (c := c1) (c' := c2) h32.symm h32.symm (k1.sl (A := A1) (bs := dat.getD k []) (by simp)) r2.rdb
        rw [h32] at z2
        have CS := Lib.hid CS
        have Kn := Lib.hid (k1.less (K' := [(gn, Obj.cells cur 3 (0, 0)), (gl, Obj.cells (lv.map Value.bool).toArray 4 (0, 0)), (gb, Obj.cells #[.int .i64 l, .int .i64 (D : Int), .int .i64 c] 24 (0, 0))]) (R' := [(some ⟨bx, ox, none⟩, dat)]) (S' := []) (fun _ h => h) (fun _ h => h) (fun _ h => absurd h (by simp)))
        clear k1 r2
        go_wp2_with fail
        (with_reducible refine CS.out.mono ?_); rintro e w2 ⟨rfl, m2, rfl⟩
        have K2 := Lib.hid (Kn.out.below (belowN _ _ m2))
        go_wp2_with fail
        exact HK.out _ _ _ _ _ _ _ _ _ _ _ _ _ _ _ _ _ _ _ _ _ _ _ _ _ _ _ _ _ _ _ _ _ _ _ _ _ _ _ _ _ _ _ _ _ ⟨by omega, K2.out⟩ (by omega)
  · have i1 : ¬ (k : Int) < (W : Int) := by omega
    have Hin := Lib.hid (show k = W by omega)
    clear HK hk
    go_wp2_with fail
    exact HX.out _ _ _ _ _ _ _ _ _ _ _ _ _ _ _ _ _ _ _ _ _ _ _ _ _ _ _ _ _ _ _ _ _ _ _ _ _ _ _ _ _ _ _ _ Hin.out
set_option maxRecDepth 100000 in
set_option maxHeartbeats 3200000 in
theorem soB {W0 : World} {n l c : Int} {D F W ρ b gb gl gn bx ox cx cn dd : Nat} {dat : List (List UInt8)} {lv : List Bool} {cur : Array Value} {H : BH} {N : Bch}  {w : World} (u0 u1 u2 u4 u5 u6 u7 u8 u9 u10 u14 u16 u17 u18 u19 u20 u21 u23 u24 u25 u26 u27 u28 u29 u30 u31 u32 u33 u34 u35 u36 u37 u38 u39 u40 u41 u42 u43 u44 u45 u46 u47 u48 u49 u50 u51 u52 u53 u54 u55 u56 u57 u58 u59 u60 u61 u62 u63 u64 u65 u66 u67 u68 u69 u70 u71 u72 u73 u74 u75 u76 u77 u78 u79 u80 u81 u82 u83 u84 u85 u86 u87 u88 u89 u90 u91 u92 u93 u94 u95 u96 u97 u98 u99 u100 u101 u102 u103 u104 u105 u106 u107 u108 u109 u110 u111 u112 u113 u117 u118 u119 u120 u121 u122 u123 u124 u125 u126 u127 u128 u129 u130 u131 u132 u133 u134 u135 u136 u137 u138 u139 u140 u141 u142 u143 u144 u145 u146 u147 u148 u149 u150 u151 u152 u153 u154 u155 : Value) (Q : Exit → Act → World → Prop) (gr : Gr n l c (ρ : Int) D F W) (hll : lv.length = D) (hdl : dat.length = W) (hdm : ∀ x ∈ dat, x.length = 32) (hcur : ∀ k, k < W → cur[k]? = some (.int .i64 (plN l (D : Int) c (ρ : Int) (k : Int)))) (h1 : ∀ k, k < W → roS D F k ≠ dd → lv.getD (roS D F k) false = true → soneE N lv l (D : Int) c (plN l (D : Int) c (ρ : Int) (k : Int)) = 0 ∧ soneB N lv l (D : Int) c (plN l (D : Int) c (ρ : Int) (k : Int)) = dat.getD k []) (hI : (0 ≤ W ∧ KS W0 w b H N [(gn, Obj.cells cur 3 (0, 0)), (gl, Obj.cells (lv.map Value.bool).toArray 4 (0, 0)), (gb, Obj.cells #[.int .i64 l, .int .i64 (D : Int), .int .i64 c] 24 (0, 0))] [(some ⟨bx, ox, none⟩, dat)] []))
    (hX : ∀ (v10 v23 v24 v25 v26 v27 v117 v118 v119 v120 v121 v122 v123 v124 v125 v126 v127 v128 v129 v130 v131 v132 v133 v134 v135 v136 v137 v138 v139 v140 v141 v142 v143 v144 v145 v146 v147 v148 v149 v150 v151 v152 v153 v154 : Value) (k : Nat) (V : World), (k ≤ W ∧ KS W0 V b H N [(gn, Obj.cells cur 3 (0, 0)), (gl, Obj.cells (lv.map Value.bool).toArray 4 (0, 0)), (gb, Obj.cells #[.int .i64 l, .int .i64 (D : Int), .int .i64 c] 24 (0, 0))] [(some ⟨bx, ox, none⟩, dat)] []) → (k = W) → Q (.exit 2) ⟨List.toArray (u0 :: u1 :: u2 :: (.int .i64 (ρ : Int)) :: u4 :: u5 :: u6 :: u7 :: u8 :: u9 :: v10 :: (.pointer (some ⟨gb, 0, none⟩)) :: (.pointer (some ⟨b, 0, none⟩)) :: (.slice (some ⟨gl, 0, none⟩) D D) :: u14 :: (.slice (some ⟨bx, ox, none⟩) W cx) :: u16 :: u17 :: u18 :: u19 :: u20 :: u21 :: (.int .i64 (dd : Int)) :: v23 :: v24 :: v25 :: v26 :: v27 :: u28 :: u29 :: u30 :: u31 :: u32 :: u33 :: u34 :: u35 :: u36 :: u37 :: u38 :: u39 :: u40 :: u41 :: u42 :: u43 :: u44 :: u45 :: u46 :: u47 :: u48 :: u49 :: u50 :: u51 :: u52 :: u53 :: u54 :: u55 :: u56 :: u57 :: u58 :: u59 :: u60 :: u61 :: u62 :: u63 :: u64 :: u65 :: u66 :: u67 :: u68 :: u69 :: u70 :: u71 :: u72 :: u73 :: u74 :: u75 :: u76 :: u77 :: u78 :: u79 :: u80 :: u81 :: u82 :: u83 :: u84 :: u85 :: u86 :: u87 :: u88 :: u89 :: u90 :: u91 :: u92 :: u93 :: u94 :: u95 :: u96 :: u97 :: u98 :: u99 :: u100 :: u101 :: u102 :: u103 :: u104 :: u105 :: u106 :: u107 :: u108 :: u109 :: u110 :: u111 :: u112 :: u113 :: (.slice (some ⟨gn, 0, none⟩) W cn) :: (.int .i64 (W : Int)) :: (.int .i64 ((k : Nat) : Int)) :: v117 :: v118 :: v119 :: v120 :: v121 :: v122 :: v123 :: v124 :: v125 :: v126 :: v127 :: v128 :: v129 :: v130 :: v131 :: v132 :: v133 :: v134 :: v135 :: v136 :: v137 :: v138 :: v139 :: v140 :: v141 :: v142 :: v143 :: v144 :: v145 :: v146 :: v147 :: v148 :: v149 :: v150 :: v151 :: v152 :: v153 :: v154 :: u155 :: []), []⟩ V) :
    Code.wp Try.prog (.loop (sub [1, 1, 1, 1, 1, 1, 1, 1, 1, 1, 1, 1, 1, 0, 1, 0, 0] codeSO)) Q ⟨List.toArray (u0 :: u1 :: u2 :: (.int .i64 (ρ : Int)) :: u4 :: u5 :: u6 :: u7 :: u8 :: u9 :: u10 :: (.pointer (some ⟨gb, 0, none⟩)) :: (.pointer (some ⟨b, 0, none⟩)) :: (.slice (some ⟨gl, 0, none⟩) D D) :: u14 :: (.slice (some ⟨bx, ox, none⟩) W cx) :: u16 :: u17 :: u18 :: u19 :: u20 :: u21 :: (.int .i64 (dd : Int)) :: u23 :: u24 :: u25 :: u26 :: u27 :: u28 :: u29 :: u30 :: u31 :: u32 :: u33 :: u34 :: u35 :: u36 :: u37 :: u38 :: u39 :: u40 :: u41 :: u42 :: u43 :: u44 :: u45 :: u46 :: u47 :: u48 :: u49 :: u50 :: u51 :: u52 :: u53 :: u54 :: u55 :: u56 :: u57 :: u58 :: u59 :: u60 :: u61 :: u62 :: u63 :: u64 :: u65 :: u66 :: u67 :: u68 :: u69 :: u70 :: u71 :: u72 :: u73 :: u74 :: u75 :: u76 :: u77 :: u78 :: u79 :: u80 :: u81 :: u82 :: u83 :: u84 :: u85 :: u86 :: u87 :: u88 :: u89 :: u90 :: u91 :: u92 :: u93 :: u94 :: u95 :: u96 :: u97 :: u98 :: u99 :: u100 :: u101 :: u102 :: u103 :: u104 :: u105 :: u106 :: u107 :: u108 :: u109 :: u110 :: u111 :: u112 :: u113 :: (.slice (some ⟨gn, 0, none⟩) W cn) :: (.int .i64 (W : Int)) :: (.int .i64 ((0 : Nat) : Int)) :: u117 :: u118 :: u119 :: u120 :: u121 :: u122 :: u123 :: u124 :: u125 :: u126 :: u127 :: u128 :: u129 :: u130 :: u131 :: u132 :: u133 :: u134 :: u135 :: u136 :: u137 :: u138 :: u139 :: u140 :: u141 :: u142 :: u143 :: u144 :: u145 :: u146 :: u147 :: u148 :: u149 :: u150 :: u151 :: u152 :: u153 :: u154 :: u155 :: []), []⟩ w := by
  refine wp_loop_ghost (fun gk a V => ∀ C : Prop, (∀ (u10 u23 u24 u25 u26 u27 u117 u118 u119 u120 u121 u122 u123 u124 u125 u126 u127 u128 u129 u130 u131 u132 u133 u134 u135 u136 u137 u138 u139 u140 u141 u142 u143 u144 u145 u146 u147 u148 u149 u150 u151 u152 u153 u154 : Value) (k : Nat), gk = W - k → (k ≤ W ∧ KS W0 V b H N [(gn, Obj.cells cur 3 (0, 0)), (gl, Obj.cells (lv.map Value.bool).toArray 4 (0, 0)), (gb, Obj.cells #[.int .i64 l, .int .i64 (D : Int), .int .i64 c] 24 (0, 0))] [(some ⟨bx, ox, none⟩, dat)] []) → a = ⟨List.toArray (u0 :: u1 :: u2 :: (.int .i64 (ρ : Int)) :: u4 :: u5 :: u6 :: u7 :: u8 :: u9 :: u10 :: (.pointer (some ⟨gb, 0, none⟩)) :: (.pointer (some ⟨b, 0, none⟩)) :: (.slice (some ⟨gl, 0, none⟩) D D) :: u14 :: (.slice (some ⟨bx, ox, none⟩) W cx) :: u16 :: u17 :: u18 :: u19 :: u20 :: u21 :: (.int .i64 (dd : Int)) :: u23 :: u24 :: u25 :: u26 :: u27 :: u28 :: u29 :: u30 :: u31 :: u32 :: u33 :: u34 :: u35 :: u36 :: u37 :: u38 :: u39 :: u40 :: u41 :: u42 :: u43 :: u44 :: u45 :: u46 :: u47 :: u48 :: u49 :: u50 :: u51 :: u52 :: u53 :: u54 :: u55 :: u56 :: u57 :: u58 :: u59 :: u60 :: u61 :: u62 :: u63 :: u64 :: u65 :: u66 :: u67 :: u68 :: u69 :: u70 :: u71 :: u72 :: u73 :: u74 :: u75 :: u76 :: u77 :: u78 :: u79 :: u80 :: u81 :: u82 :: u83 :: u84 :: u85 :: u86 :: u87 :: u88 :: u89 :: u90 :: u91 :: u92 :: u93 :: u94 :: u95 :: u96 :: u97 :: u98 :: u99 :: u100 :: u101 :: u102 :: u103 :: u104 :: u105 :: u106 :: u107 :: u108 :: u109 :: u110 :: u111 :: u112 :: u113 :: (.slice (some ⟨gn, 0, none⟩) W cn) :: (.int .i64 (W : Int)) :: (.int .i64 ((k : Nat) : Int)) :: u117 :: u118 :: u119 :: u120 :: u121 :: u122 :: u123 :: u124 :: u125 :: u126 :: u127 :: u128 :: u129 :: u130 :: u131 :: u132 :: u133 :: u134 :: u135 :: u136 :: u137 :: u138 :: u139 :: u140 :: u141 :: u142 :: u143 :: u144 :: u145 :: u146 :: u147 :: u148 :: u149 :: u150 :: u151 :: u152 :: u153 :: u154 :: u155 :: []), []⟩ → C) → C) (W - 0) ?_ ?_
  · intro C hC
    exact hC _ _ _ _ _ _ _ _ _ _ _ _ _ _ _ _ _ _ _ _ _ _ _ _ _ _ _ _ _ _ _ _ _ _ _ _ _ _ _ _ _ _ _ _ (0) rfl hI rfl
  · intro gk a V hI'
    refine hI' _ ?_
    intro u10 u23 u24 u25 u26 u27 u117 u118 u119 u120 u121 u122 u123 u124 u125 u126 u127 u128 u129 u130 u131 u132 u133 u134 u135 u136 u137 u138 u139 u140 u141 u142 u143 u144 u145 u146 u147 u148 u149 u150 u151 u152 u153 u154 k hk hinv ha
    subst ha
    subst hk
    refine soBb _ _ _ _ _ _ _ _ _ _ _ _ _ _ _ _ _ _ _ _ _ _ _ _ _ _ _ _ _ _ _ _ _ _ _ _ _ _ _ _ _ _ _ _ _ _ _ _ _ _ _ _ _ _ _ _ _ _ _ _ _ _ _ _ _ _ _ _ _ _ _ _ _ _ _ _ _ _ _ _ _ _ _ _ _ _ _ _ _ _ _ _ _ _ _ _ _ _ _ _ _ _ _ _ _ _ _ _ _ _ _ _ _ _ _ _ _ _ _ _ _ _ _ _ _ _ _ _ _ _ _ _ _ _ _ _ _ _ _ _ _ _ _ _ _ _ _ _ _ gr hll hdl hdm hcur h1 hinv (fun v10 v23 v24 v25 v26 v27 v117 v118 v119 v120 v121 v122 v123 v124 v125 v126 v127 v128 v129 v130 v131 v132 v133 v134 v135 v136 v137 v138 v139 v140 v141 v142 v143 v144 v145 v146 v147 v148 v149 v150 v151 v152 v153 v154  V2 h2 hm => ?_) (fun v10 v23 v24 v25 v26 v27 v117 v118 v119 v120 v121 v122 v123 v124 v125 v126 v127 v128 v129 v130 v131 v132 v133 v134 v135 v136 v137 v138 v139 v140 v141 v142 v143 v144 v145 v146 v147 v148 v149 v150 v151 v152 v153 v154 hx => hX v10 v23 v24 v25 v26 v27 v117 v118 v119 v120 v121 v122 v123 v124 v125 v126 v127 v128 v129 v130 v131 v132 v133 v134 v135 v136 v137 v138 v139 v140 v141 v142 v143 v144 v145 v146 v147 v148 v149 v150 v151 v152 v153 v154 k V hinv hx)
    refine ⟨_, hm, fun C hC => ?_⟩
    exact hC v10 v23 v24 v25 v26 v27 v117 v118 v119 v120 v121 v122 v123 v124 v125 v126 v127 v128 v129 v130 v131 v132 v133 v134 v135 v136 v137 v138 v139 v140 v141 v142 v143 v144 v145 v146 v147 v148 v149 v150 v151 v152 v153 v154 ((k + 1)) rfl h2 rfl
end Go.Proofs.Ytpaegibaikpikaa
end
section
set_option linter.unusedVariables false
set_option linter.unusedSimpArgs false
namespace Go.Proofs.Ytpaegibaikpikaa
open Go.RowKit

section
variable {W w : World} {b : Nat} {H : BH} {N : Bch} {K : List (Nat × Obj)} {R : List (Option Addr × List (List UInt8))} {S : List (Option Addr × List UInt8)}
theorem ks_numsG (h : KS W w b H N K R S) {n l c : Int} {ρ D F Wd : Nat} (gr : Gr n l c (ρ : Int) D F Wd) :
    Calls Try.prog 30 #[.agg #[.int .i64 l, .int .i64 (D : Int), .int .i64 c], .int .i64 (ρ : Int)] w fun e w' => ∃ gn cn cur, e = .returned (.slice (some ⟨gn, 0, none⟩) Wd cn) ∧ KS W w' b H N ((gn, Obj.cells cur 3 (0, 0)) :: K) R S ∧ (∀ k, k < Wd → cur[k]? = some (.int .i64 (plN l (D : Int) c (ρ : Int) (k : Int)))) ∧ w.heap.size ≤ gn := by
  have hwd := gr.wd
  have hlen : (plNums l (D : Int) c (ρ : Int)).length = Wd := by rw [plNums_len gr.ok, hwd]; omega
  refine (refNumbers_own l (D : Int) c (ρ : Int) w (Lib.hid gr.ok) gr.l64 gr.d64 gr.c64 gr.r64).mono ?_
  rintro e w' ⟨v, rfl, ho, hb⟩
  rcases ho.2 with ⟨_, h0⟩ | ⟨g, cap, cur, rfl, hB, hg, hc, _, _, htk⟩
  · have := gr.w1; omega
  · rw [hlen]
    refine ⟨g, cap, cur, rfl, h.block hb hg hB, fun k hk => ?_, hB⟩
    have h1 := congrArg (fun t : List Value => t[k]?) htk
    simp only [List.getElem?_take, List.getElem?_map] at h1
    rw [if_pos (by rw [hlen]; omega), Array.getElem?_toList] at h1
    rw [h1, List.getElem?_eq_getElem (by rw [hlen]; exact hk)]
    have e := plNums_get gr.ok (k := k) (by rw [hwd]; omega)
    rw [List.getD_eq_getElem?_getD, List.getElem?_eq_getElem (by rw [hlen]; exact hk)] at e
    show some (zv _) = _
    rw [show (plNums l (D : Int) c (ρ : Int))[k]'(by rw [hlen]; exact hk) = plN l (D : Int) c (ρ : Int) (k : Int) from e]
    rfl
theorem ks_nums (h : KS W w b H N K R S) {n l c : Int} {ρ D F Wd : Nat} (gr : Gr n l c (ρ : Int) D F Wd) :
    Calls Try.prog 30 #[.agg #[.int .i64 l, .int .i64 (D : Int), .int .i64 c], .int .i64 (ρ : Int)] w fun e w' => ∃ gn cn cur, e = .returned (.slice (some ⟨gn, 0, none⟩) Wd cn) ∧ KS W w' b H N ((gn, Obj.cells cur 3 (0, 0)) :: K) R S ∧ ∀ k, k < Wd → cur[k]? = some (.int .i64 (plN l (D : Int) c (ρ : Int) (k : Int))) := by
  refine (ks_numsG h gr).mono ?_
  rintro e w' ⟨gn, cn, cur, rfl, k, hc, _⟩
  exact ⟨gn, cn, cur, rfl, k, hc⟩
end
end Go.Proofs.Ytpaegibaikpikaa
end
section
set_option linter.unusedVariables false
set_option linter.unusedSimpArgs false
namespace Go.Proofs.Ytpaegibaikpikaa
open Go.RowKit

theorem wrapz (z : Int) : -9223372036854775808 ≤ wrap64 z ∧ wrap64 z ≤ 9223372036854775807 := by unfold wrap64; omega
set_option maxRecDepth 100000 in
set_option maxHeartbeats 3200000 in
theorem stripeones (n : Int) (A : Option Addr) (zl : List Int) (cl : Nat) (lo r sp : Int) (w : World) (hn : (-9223372036854775808 ≤ n ∧ n ≤ 9223372036854775807)) (hcl : zl.length ≤ cl) (hzl : RdZ w w.heap.size A zl) (hlo : (-9223372036854775808 ≤ lo ∧ lo ≤ 9223372036854775807)) (hr : (-9223372036854775808 ≤ r ∧ r ≤ 9223372036854775807)) (hsp : (-9223372036854775808 ≤ sp ∧ sp ≤ 9223372036854775807)) :
    Calls Try.prog 7 #[.int .i64 n, .slice A zl.length cl, .int .i64 lo, .int .i64 r, .int .i64 sp] w fun e w' => e = .returned (.bool true) ∧ Below w.heap.size w w' := by
  have hpn := ptr_eq
  have HP := Lib.hid (fun V => playGood_any n V hn)
  have CW1 := Lib.hid (fun V => within_any r 16 V hr (by omega))
  have hrb := withinI_bd r 16 (by omega)
  obtain ⟨ρ, hρe⟩ := Int.eq_ofNat_of_zero_le hrb.1
  rw [hρe] at CW1 hrb
  have hρ : ρ < 16 := by omega
  obtain ⟨D, F, W, hD, gr⟩ := gr_of n (r := (ρ : Int)) (by omega) (by omega)
  rw [hD] at HP
  have hd8 := gr.d8; have hd3 := gr.d3; have hw7 := gr.w7
  have CW2 := Lib.hid (fun V => within_any lo (2 * (D : Int)) V hlo (by omega))
  have hab := withinI_bd lo (2 * (D : Int)) (by omega)
  obtain ⟨d1, hd1⟩ := Int.eq_ofNat_of_zero_le hab.1
  rw [hd1] at CW2 hab
  have CW3 := Lib.hid (fun V => within_any sp (D : Int) V hsp (by omega))
  have hbb := withinI_bd sp (D : Int) (by omega)
  obtain ⟨d2, hd2⟩ := Int.eq_ofNat_of_zero_le hbb.1
  rw [hd2] at CW3 hbb
  have hd2D : d2 < D := by omega
  have HWk := Lib.hid (fun V => wakesStp_any V)
  generalize goL n = l at *
  generalize goC n = c at *
  have L1 := gr.l64
  have L2 := gr.d64
  have L3 := gr.c64
  have L4 := gr.r64
  have CFl := Lib.hid (fun (w1 : World) (hb1 : Below w.heap.size w w1) => filled_open gr D (Nat.le_refl _) hd8 zl.length cl hb1 rfl hcl hzl)
  have Gr' := Lib.hid gr
  have hl0 := liveL_len 0 D
  clear hD hρe hd1 hd2 hn hr hlo hsp hzl gr hrb
  go_enter Try.func7, Try.ntmps7
  go_wp2_with fail
  (with_reducible refine (HP.out _).mono ?_); rintro e w1 ⟨rfl, hb1⟩
  have G := gat_new w1 l D c 24 (0, 0)
  obtain ⟨g1, g2, g3⟩ := G
  have CFl1 := Lib.hid (CFl.out w1 hb1)
  clear hb1 CFl
  go_wp2_with fail
  (with_reducible refine CFl1.out.mono ?_); rintro e w2 ⟨b, H0, N0, rfl, k0, f0⟩
  have CLv := Lib.hid (ks_live k0 0 D (by omega) (by omega))
  obtain ⟨g4, g5, g6⟩ := k0.gat (g := w1.heap.size) (l := l) (d := (D : Int)) (c := c) (t := 24) (f := (0, 0)) (by simp)
  have Hgw := Lib.hid (Array.getElem?_eq_some_iff.1 (k0.kx.kp _ (List.mem_cons_self ..)).1).1
  have Hf0 := Lib.hid f0
  clear k0 f0 CFl1 g1 g2 g3
  generalize w1.heap.size = gb at *
  go_wp2_with fail
  (with_reducible refine CLv.out.mono ?_); rintro e w3 ⟨gl, rfl, k1⟩
  have K1 := Lib.hid k1
  obtain ⟨g1, g2, g3⟩ := k1.gat (g := gb) (l := l) (d := (D : Int)) (c := c) (t := 24) (f := (0, 0)) (by simp)
  have hblk := (k1.kx.kp _ (List.mem_cons_self ..)).1
  dsimp only at hblk
  have hgne : gb ≠ gl := by
    intro e
    have h2 := (k1.kx.kp (gb, Obj.cells #[.int .i64 l, .int .i64 (D : Int), .int .i64 c] 24 (0, 0)) (by simp)).1
    dsimp only at h2
    rw [e, hblk] at h2
    injection h2 with h2
    injection h2 with h3 _ _
    have h4 := congrArg (fun t : Array Value => t[0]?) h3
    have hD0 : 0 < D := by omega
    simp only [List.getElem?_toArray, List.getElem?_map] at h4
    rw [List.getElem?_eq_getElem (by rw [hl0]; exact hD0)] at h4
    cases h4
  clear k1 CLv g4 g5 g6
  have i0 : (0 : Int) ≤ (d1 : Int) := by omega
  go_wp2_with fail
  (with_reducible refine (CW2.out _).mono ?_); rintro e w3' ⟨rfl, rfl⟩
  by_cases hdD : d1 < D
  · have i1 : (d1 : Int) < (D : Int) := by omega
    have hll : ((liveL 0 D).set d1 false).length = D := by rw [List.length_set]; exact hl0
    have hlt2 : ∀ i, i < D → i ≠ d1 → ((liveL 0 D).set d1 false).getD i false = true := fun i hi hne => by
      rw [List.getD_eq_getElem?_getD, List.getElem?_set_ne (by omega), ← List.getD_eq_getElem?_getD]
      exact live0 hi
    obtain ⟨hc0, hfz0, hb2, gg2⟩ := lv_setCell hblk (d := d1) (by rw [hl0]; exact hdD) false
    have K2 := Lib.hid (K1.out.put gg2 hb2 (by simpa using hgne))
    generalize (liveL 0 D).set d1 false = lv at hll hlt2 K2
    clear hab hblk hb2 gg2 K1
    go_upto_region 9 with fail
    generalize w3'.setCell ⟨gl, d1, none⟩ (.bool false) = w4 at K2 ⊢
    have HCN := Lib.hid (show ((cntB D (fun i => !srvD N0 lv i) : Nat) : Int) ≤ l - 4 from by
      have := cnt_one (N := N0) (lv := lv) (D := D) (d := d1) (by rw [Hf0.out.gd.n]; exact Nat.le_refl _) (fun i hi => Hf0.out.gd.f i hi) hlt2
      have := Gr'.out.lv
      omega)
    have Hlt2 := Lib.hid hlt2
    clear hlt2
    obtain ⟨g1, g2, g3⟩ := K2.out.gat (g := gb) (l := l) (d := (D : Int)) (c := c) (t := 24) (f := (0, 0)) (by simp)
    go_wp2_with fail
    (with_reducible refine (CW1.out _).mono ?_); rintro e w4 ⟨rfl, rfl⟩
    have EQ := Hf0.out.std.ok (lv := lv) Gr'.out (datL_len zl ρ W) datL_mem (show rowL l c D W zl ρ = _ by unfold rowL; rw [Gr'.out.eF]) HCN.out
    have CR := ks_read K2.out lv (some ⟨gl, 0, none⟩) D D hll.symm (K2.out.lv (g := gl) (t := 4) (f := (0, 0)) (lv := lv) (by simp) rfl (by omega)) l (D : Int) c (ρ : Int) L1 L2 L3 L4
    rw [EQ.1, EQ.2, datL_len] at CR
    have CR := Lib.hid CR
    have HEQ := Lib.hid EQ
    clear EQ
    go_wp2_with fail
    (with_reducible refine CR.out.mono ?_); rintro e w5 ⟨A15, cx, rfl, k5, _⟩
    have CNm := Lib.hid (ks_nums k5 Gr'.out)
    obtain ⟨g4, g5, g6⟩ := k5.gat (g := gb) (l := l) (d := (D : Int)) (c := c) (t := 24) (f := (0, 0)) (by simp)
    obtain ⟨bx, ox, rfl⟩ : ∃ bx ox, A15 = some ⟨bx, ox, none⟩ := by
      obtain ⟨b', off, _, _, e, _, _⟩ := (k5.rx (A15, datL zl ρ W) (by simp)).at (k := 0) (by show 0 < (datL zl ρ W).length; rw [datL_len]; have := Gr'.out.w1; omega)
      exact ⟨b', off, e⟩
    clear k5 g1 g2 g3 CR
    go_wp2_with fail
    (with_reducible refine CNm.out.mono ?_); rintro e w6 ⟨gn, cn, cur, rfl, k6, hcur⟩
    have K6 := Lib.hid k6
    have Hcur := Lib.hid hcur
    have eWW : ((W : Int) != (W : Int)) = false := bne_self_eq_false _
    clear k6 hcur CNm g4 g5 g6
    go_upto_block 0 with fail
    refine wp_block ?_
    refine soA _ _ _ _ _ _ _ _ _ _ _ _ _ _ _ _ _ _ _ _ _ _ _ _ _ _ _ _ _ _ _ _ _ _ _ _ _ _ _ _ _ _ _ _ _ _ _ _ _ _ _ _ _ _ _ _ _ _ _ _ _ _ _ _ _ _ _ _ _ _ _ _ _ _ _ _ _ _ _ _ _ _ _ _ _ _ _ _ _ _ _ _ _ _ _ _ _ _ _ _ _ _ _ _ _ _ _ _ _ _ _ _ _ _ _ _ _ _ _ _ _ _ _ _ _ _ _ _ _ _ _ _ _ _ _ _ _ _ _ _ _ _ _ _ _ _ _ _ Gr'.out hll (datL_len zl ρ W) datL_mem Hcur.out (fun k hk => Hf0.out.std.one Gr'.out hρ (datL_len zl ρ W) (show rowL l c D W zl ρ = _ by unfold rowL; rw [Gr'.out.eF]) HEQ.out hk) ⟨Nat.zero_le _, K6.out⟩ (fun v10 v18 v19 v20 v21 v77 v78 v79 v80 v81 v82 v83 v84 v85 v86 v87 v88 v89 v90 v91 v92 v93 v94 v95 v96 v97 v98 v99 v100 k V7 hI _ => ?_)
    have K7 := Lib.hid hI.2
    obtain ⟨g1, g2, g3⟩ := K7.out.gat (g := gb) (l := l) (d := (D : Int)) (c := c) (t := 24) (f := (0, 0)) (by simp)
    clear hI K6
    go_wp2_with fail
    (with_reducible refine (CW3.out _).mono ?_); rintro e w8 ⟨rfl, rfl⟩
    go_wp2_with fail
    (with_reducible refine (sector_any (wrap64 (wrap64 (sp * 5) + 2)) _ (wrapz _)).mono ?_); rintro e w9 ⟨gz, rfl, ho9, hb9⟩
    have k9 := K7.out.slice hb9 ho9.rdbf
    have hx9 := sectorB_len (wrap64 (wrap64 (sp * 5) + 2))
    generalize sectorB (wrap64 (wrap64 (sp * 5) + 2)) = x9 at k9 hx9
    have CDm := ks_damage k9 (d2 : Int) (36 + (ρ : Int)) x9 (some ⟨gz, 0, none⟩) 32 32 hx9.symm ⟨by omega, by omega⟩ ⟨by omega, by omega⟩ (k9.sl (A := some ⟨gz, 0, none⟩) (bs := x9) (by simp)) (fun i hi => by rw [Hf0.out.gd.ps i (by rw [Hf0.out.gd.n] at hi; exact hi)]; exact Nat.zero_le _)
    have GD := gd_damage (x := x9) (k := 36 + ρ) Hf0.out.gd hd2D (by omega) hx9
    have SD := sec_damage (x := x9) (k := 36 + ρ) Hf0.out.gd hd2D (by omega) hx9
    rw [show ((36 + ρ : Nat) : Int) = 36 + (ρ : Int) by omega] at GD SD
    generalize N0.damage (d2 : Int) (36 + (ρ : Int)) x9 = N1 at CDm GD SD
    have CDm := Lib.hid CDm
    have Hone := Lib.hid (show ∀ k, k < W → roS D F k ≠ d2 → lv.getD (roS D F k) false = true → soneE N1 lv l (D : Int) c (plN l (D : Int) c (ρ : Int) (k : Int)) = 0 ∧ soneB N1 lv l (D : Int) c (plN l (D : Int) c (ρ : Int) (k : Int)) = (datL zl ρ W).getD k [] from fun k hk hne hl => by
      have hWD := Gr'.out.hW
      have hFD := Gr'.out.hF
      have hr := roS_lt hFD (show k < D by omega)
      obtain ⟨h1, h2⟩ := one_own (N := N1) (lv := lv) Gr'.out hk GD.dn (srvD_mk (by rw [GD.n]; exact hr) hl (GD.f _ hr))
      refine ⟨h1, h2.trans ?_⟩
      rw [SD, if_neg (fun h => hne h.1), Hf0.out.all hr hρ]
      unfold rowL
      rw [Gr'.out.eF, fillL_at hFD (by omega), allL_data (by rw [datL_len]; exact hk)])
    clear k9 GD SD ho9 hb9 g1 g2 g3
    go_wp2_with fail
    (with_reducible refine CDm.out.mono ?_); rintro e w10 ⟨rfl, H10, k10⟩
    have K10 := Lib.hid (k10.less (K' := [(gn, Obj.cells cur 3 (0, 0)), (gl, Obj.cells (lv.map Value.bool).toArray 4 (0, 0)), (gb, Obj.cells #[.int .i64 l, .int .i64 (D : Int), .int .i64 c] 24 (0, 0))]) (R' := [(some ⟨bx, ox, none⟩, datL zl ρ W)]) (S' := []) (fun _ h => h) (fun _ h => h) (fun _ h => absurd h (by simp)))
    clear k10 CDm K7
    go_upto_block 2 with fail
    refine wp_block ?_
    refine soB _ _ _ _ _ _ _ _ _ _ _ _ _ _ _ _ _ _ _ _ _ _ _ _ _ _ _ _ _ _ _ _ _ _ _ _ _ _ _ _ _ _ _ _ _ _ _ _ _ _ _ _ _ _ _ _ _ _ _ _ _ _ _ _ _ _ _ _ _ _ _ _ _ _ _ _ _ _ _ _ _ _ _ _ _ _ _ _ _ _ _ _ _ _ _ _ _ _ _ _ _ _ _ _ _ _ _ _ _ _ _ _ _ _ _ _ _ _ _ _ _ _ _ _ _ _ _ _ _ _ _ _ _ _ _ _ _ _ _ _ _ _ _ _ _ _ _ _ Gr'.out hll (datL_len zl ρ W) datL_mem Hcur.out Hone.out ⟨Nat.zero_le _, K10.out⟩ (fun v10 v23 v24 v25 v26 v27 v117 v118 v119 v120 v121 v122 v123 v124 v125 v126 v127 v128 v129 v130 v131 v132 v133 v134 v135 v136 v137 v138 v139 v140 v141 v142 v143 v144 v145 v146 v147 v148 v149 v150 v151 v152 v153 v154 k V11 hI _ => ?_)
    have F11 := Lib.hid hI.2.bp.bel
    clear hI K10
    go_wp2_with fail
    (with_reducible refine (HWk.out _).mono ?_); rintro e w12 ⟨rfl, hb12⟩
    have F12 := F11.out.trans (hb12.mono F11.out.size)
    go_wp2
    go_ret
    exact ⟨rfl, F12⟩
  · have i1 : ¬ (d1 : Int) < (D : Int) := by omega
    have hll := hl0
    have hlt2 : ∀ i, i < D → i ≠ d1 → (liveL 0 D).getD i false = true := fun i hi _ => live0 hi
    have K2 := Lib.hid K1.out
    generalize liveL 0 D = lv at hll hlt2 K2
    clear hab hblk K1 hl0
    have HCN := Lib.hid (show ((cntB D (fun i => !srvD N0 lv i) : Nat) : Int) ≤ l - 4 from by
      have := cnt_one (N := N0) (lv := lv) (D := D) (d := d1) (by rw [Hf0.out.gd.n]; exact Nat.le_refl _) (fun i hi => Hf0.out.gd.f i hi) hlt2
      have := Gr'.out.lv
      omega)
    have Hlt2 := Lib.hid hlt2
    clear hlt2
    obtain ⟨g1, g2, g3⟩ := K2.out.gat (g := gb) (l := l) (d := (D : Int)) (c := c) (t := 24) (f := (0, 0)) (by simp)
    go_wp2_with fail
    (with_reducible refine (CW1.out _).mono ?_); rintro e w4 ⟨rfl, rfl⟩
    have EQ := Hf0.out.std.ok (lv := lv) Gr'.out (datL_len zl ρ W) datL_mem (show rowL l c D W zl ρ = _ by unfold rowL; rw [Gr'.out.eF]) HCN.out
    have CR := ks_read K2.out lv (some ⟨gl, 0, none⟩) D D hll.symm (K2.out.lv (g := gl) (t := 4) (f := (0, 0)) (lv := lv) (by simp) rfl (by omega)) l (D : Int) c (ρ : Int) L1 L2 L3 L4
    rw [EQ.1, EQ.2, datL_len] at CR
    have CR := Lib.hid CR
    have HEQ := Lib.hid EQ
    clear EQ
    go_wp2_with fail
    (with_reducible refine CR.out.mono ?_); rintro e w5 ⟨A15, cx, rfl, k5, _⟩
    have CNm := Lib.hid (ks_nums k5 Gr'.out)
    obtain ⟨g4, g5, g6⟩ := k5.gat (g := gb) (l := l) (d := (D : Int)) (c := c) (t := 24) (f := (0, 0)) (by simp)
    obtain ⟨bx, ox, rfl⟩ : ∃ bx ox, A15 = some ⟨bx, ox, none⟩ := by
      obtain ⟨b', off, _, _, e, _, _⟩ := (k5.rx (A15, datL zl ρ W) (by simp)).at (k := 0) (by show 0 < (datL zl ρ W).length; rw [datL_len]; have := Gr'.out.w1; omega)
      exact ⟨b', off, e⟩
    clear k5 g1 g2 g3 CR
    go_wp2_with fail
    (with_reducible refine CNm.out.mono ?_); rintro e w6 ⟨gn, cn, cur, rfl, k6, hcur⟩
    have K6 := Lib.hid k6
    have Hcur := Lib.hid hcur
    have eWW : ((W : Int) != (W : Int)) = false := bne_self_eq_false _
    clear k6 hcur CNm g4 g5 g6
    go_upto_block 0 with fail
    refine wp_block ?_
    refine soA _ _ _ _ _ _ _ _ _ _ _ _ _ _ _ _ _ _ _ _ _ _ _ _ _ _ _ _ _ _ _ _ _ _ _ _ _ _ _ _ _ _ _ _ _ _ _ _ _ _ _ _ _ _ _ _ _ _ _ _ _ _ _ _ _ _ _ _ _ _ _ _ _ _ _ _ _ _ _ _ _ _ _ _ _ _ _ _ _ _ _ _ _ _ _ _ _ _ _ _ _ _ _ _ _ _ _ _ _ _ _ _ _ _ _ _ _ _ _ _ _ _ _ _ _ _ _ _ _ _ _ _ _ _ _ _ _ _ _ _ _ _ _ _ _ _ _ _ Gr'.out hll (datL_len zl ρ W) datL_mem Hcur.out (fun k hk => Hf0.out.std.one Gr'.out hρ (datL_len zl ρ W) (show rowL l c D W zl ρ = _ by unfold rowL; rw [Gr'.out.eF]) HEQ.out hk) ⟨Nat.zero_le _, K6.out⟩ (fun v10 v18 v19 v20 v21 v77 v78 v79 v80 v81 v82 v83 v84 v85 v86 v87 v88 v89 v90 v91 v92 v93 v94 v95 v96 v97 v98 v99 v100 k V7 hI _ => ?_)
    have K7 := Lib.hid hI.2
    obtain ⟨g1, g2, g3⟩ := K7.out.gat (g := gb) (l := l) (d := (D : Int)) (c := c) (t := 24) (f := (0, 0)) (by simp)
    clear hI K6
    go_wp2_with fail
    (with_reducible refine (CW3.out _).mono ?_); rintro e w8 ⟨rfl, rfl⟩
    go_wp2_with fail
    (with_reducible refine (sector_any (wrap64 (wrap64 (sp * 5) + 2)) _ (wrapz _)).mono ?_); rintro e w9 ⟨gz, rfl, ho9, hb9⟩
    have k9 := K7.out.slice hb9 ho9.rdbf
    have hx9 := sectorB_len (wrap64 (wrap64 (sp * 5) + 2))
    generalize sectorB (wrap64 (wrap64 (sp * 5) + 2)) = x9 at k9 hx9
    have CDm := ks_damage k9 (d2 : Int) (36 + (ρ : Int)) x9 (some ⟨gz, 0, none⟩) 32 32 hx9.symm ⟨by omega, by omega⟩ ⟨by omega, by omega⟩ (k9.sl (A := some ⟨gz, 0, none⟩) (bs := x9) (by simp)) (fun i hi => by rw [Hf0.out.gd.ps i (by rw [Hf0.out.gd.n] at hi; exact hi)]; exact Nat.zero_le _)
    have GD := gd_damage (x := x9) (k := 36 + ρ) Hf0.out.gd hd2D (by omega) hx9
    have SD := sec_damage (x := x9) (k := 36 + ρ) Hf0.out.gd hd2D (by omega) hx9
    rw [show ((36 + ρ : Nat) : Int) = 36 + (ρ : Int) by omega] at GD SD
    generalize N0.damage (d2 : Int) (36 + (ρ : Int)) x9 = N1 at CDm GD SD
    have CDm := Lib.hid CDm
    have Hone := Lib.hid (show ∀ k, k < W → roS D F k ≠ d2 → lv.getD (roS D F k) false = true → soneE N1 lv l (D : Int) c (plN l (D : Int) c (ρ : Int) (k : Int)) = 0 ∧ soneB N1 lv l (D : Int) c (plN l (D : Int) c (ρ : Int) (k : Int)) = (datL zl ρ W).getD k [] from fun k hk hne hl => by
      have hWD := Gr'.out.hW
      have hFD := Gr'.out.hF
      have hr := roS_lt hFD (show k < D by omega)
      obtain ⟨h1, h2⟩ := one_own (N := N1) (lv := lv) Gr'.out hk GD.dn (srvD_mk (by rw [GD.n]; exact hr) hl (GD.f _ hr))
      refine ⟨h1, h2.trans ?_⟩
      rw [SD, if_neg (fun h => hne h.1), Hf0.out.all hr hρ]
      unfold rowL
      rw [Gr'.out.eF, fillL_at hFD (by omega), allL_data (by rw [datL_len]; exact hk)])
    clear k9 GD SD ho9 hb9 g1 g2 g3
    go_wp2_with fail
    (with_reducible refine CDm.out.mono ?_); rintro e w10 ⟨rfl, H10, k10⟩
    have K10 := Lib.hid (k10.less (K' := [(gn, Obj.cells cur 3 (0, 0)), (gl, Obj.cells (lv.map Value.bool).toArray 4 (0, 0)), (gb, Obj.cells #[.int .i64 l, .int .i64 (D : Int), .int .i64 c] 24 (0, 0))]) (R' := [(some ⟨bx, ox, none⟩, datL zl ρ W)]) (S' := []) (fun _ h => h) (fun _ h => h) (fun _ h => absurd h (by simp)))
    clear k10 CDm K7
    go_upto_block 2 with fail
    refine wp_block ?_
    refine soB _ _ _ _ _ _ _ _ _ _ _ _ _ _ _ _ _ _ _ _ _ _ _ _ _ _ _ _ _ _ _ _ _ _ _ _ _ _ _ _ _ _ _ _ _ _ _ _ _ _ _ _ _ _ _ _ _ _ _ _ _ _ _ _ _ _ _ _ _ _ _ _ _ _ _ _ _ _ _ _ _ _ _ _ _ _ _ _ _ _ _ _ _ _ _ _ _ _ _ _ _ _ _ _ _ _ _ _ _ _ _ _ _ _ _ _ _ _ _ _ _ _ _ _ _ _ _ _ _ _ _ _ _ _ _ _ _ _ _ _ _ _ _ _ _ _ _ _ Gr'.out hll (datL_len zl ρ W) datL_mem Hcur.out Hone.out ⟨Nat.zero_le _, K10.out⟩ (fun v10 v23 v24 v25 v26 v27 v117 v118 v119 v120 v121 v122 v123 v124 v125 v126 v127 v128 v129 v130 v131 v132 v133 v134 v135 v136 v137 v138 v139 v140 v141 v142 v143 v144 v145 v146 v147 v148 v149 v150 v151 v152 v153 v154 k V11 hI _ => ?_)
    have F11 := Lib.hid hI.2.bp.bel
    clear hI K10
    go_wp2_with fail
    (with_reducible refine (HWk.out _).mono ?_); rintro e w12 ⟨rfl, hb12⟩
    have F12 := F11.out.trans (hb12.mono F11.out.size)
    go_wp2
    go_ret
    exact ⟨rfl, F12⟩
end Go.Proofs.Ytpaegibaikpikaa
end
