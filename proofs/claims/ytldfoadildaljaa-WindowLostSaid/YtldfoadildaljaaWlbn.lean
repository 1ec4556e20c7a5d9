/- Texts put together: WindowLostLoops. -/
import Derived.Test.YtldfoadildaljaaWlbl
import Derived.Test.YtldfoadildaljaaWlbi
import Derived.Test.YtldfoadildaljaaWlbh
import Derived.Test.YtldfoadildaljaaWlbg
import Derived.Test.YtldfoadildaljaaWlaj
import Derived.Test.YtldfoadildaljaaWlat
section
set_option maxRecDepth 20000
set_option linter.unusedVariables false
set_option linter.unusedSimpArgs false
namespace Go.Proofs.Ytldfoadildaljaa
open Go.RowKit

noncomputable def codeWL : Code := Try.f4.body.getD .skip
set_option maxRecDepth 100000 in
set_option maxHeartbeats 3200000 in
theorem wlNb {W0 : World} {n0 l c : Int} {D F W ρ b ga gn cn q i fr cz : Nat} {A : Option Addr} {zs : List Int} {curn : Array Value} {KL : List (Nat × Obj)} {RL : List (Option Addr × List (List UInt8))} {H : BH} {M : Bch} {cx : Nat} {Aw : Option Addr} {cw : Nat} {w : World} (u0 u1 u3 u4 u5 u6 u7 u8 u9 u10 u11 u12 u14 u15 u16 u17 u18 u19 u21 u22 u23 u26 u28 u29 u30 u31 u32 u33 u34 u35 u36 u37 u38 u39 u40 u41 u42 u43 u44 u45 u46 u47 u48 u49 u50 u51 u52 u53 u54 u55 u56 u57 u58 u59 u60 u61 u62 u63 u64 u65 u66 u67 u68 u69 u70 u71 u72 u73 u74 u75 u76 u77 u78 u79 u80 u81 u82 u83 u84 u85 u86 u87 u88 u89 u90 u91 u92 u93 u94 u95 u96 u97 u98 u99 u100 u101 u102 u103 u104 u105 u106 u107 u108 u109 u110 u111 u112 u113 u114 u115 u116 u117 u118 u119 u120 u121 u122 u123 u124 u125 u126 u130 u131 u132 u133 u134 u135 u136 u137 u138 u139 u140 u141 u142 u143 u144 u145 u146 u147 u148 u149 u150 u151 u152 u153 u154 u155 : Value) (K : Act → World → Prop) (Q0 : Exit → Act → World → Prop) (gr : Gr n0 l c (ρ : Int) D F W) (hρ : ρ < 16) (hcz : zs.length ≤ cz) (hz : RdZ W0 W0.heap.size A zs) (hG : (ga, Obj.cells #[.int .i64 l, .int .i64 (D : Int), .int .i64 c] 23 (0, 0)) ∈ KL) (hN : (gn, Obj.cells curn 3 (0, 0)) ∈ KL) (hcur : ∀ k, k < W → curn[k]? = some (.int .i64 (plN l (D : Int) c (ρ : Int) (k : Int)))) (hq : q < W) (hnum : plN l (D : Int) c (ρ : Int) (q : Int) = (fr : Int) + (i : Int)) (hbd : fr + i ≤ 1000) (hI : (cx ≤ W ∧ KS W0 w b H M KL RL [(Aw, wnB zs ρ W q cx)]))
    (hK : ∀ (v29 v30 v130 v131 v132 v133 v134 v135 v136 v137 v138 v139 v140 v141 v142 v143 v144 v145 v146 : Value) (Aw2 : Option Addr) (cw2 : Nat) (V : World), ((cx + 1) ≤ W ∧ KS W0 V b H M KL RL [(Aw2, wnB zs ρ W q (cx + 1))]) → W - (cx + 1) < W - cx → K ⟨List.toArray (u0 :: u1 :: (.slice A zs.length cz) :: u3 :: u4 :: u5 :: u6 :: u7 :: u8 :: u9 :: u10 :: u11 :: u12 :: (.pointer (some ⟨ga, 0, none⟩)) :: u14 :: u15 :: u16 :: u17 :: u18 :: u19 :: (.int .i64 (fr : Int)) :: u21 :: u22 :: u23 :: (.int .i64 (i : Int)) :: (.slice Aw2 32 cw2) :: u26 :: (.int .i64 (ρ : Int)) :: u28 :: v29 :: v30 :: u31 :: u32 :: u33 :: u34 :: u35 :: u36 :: u37 :: u38 :: u39 :: u40 :: u41 :: u42 :: u43 :: u44 :: u45 :: u46 :: u47 :: u48 :: u49 :: u50 :: u51 :: u52 :: u53 :: u54 :: u55 :: u56 :: u57 :: u58 :: u59 :: u60 :: u61 :: u62 :: u63 :: u64 :: u65 :: u66 :: u67 :: u68 :: u69 :: u70 :: u71 :: u72 :: u73 :: u74 :: u75 :: u76 :: u77 :: u78 :: u79 :: u80 :: u81 :: u82 :: u83 :: u84 :: u85 :: u86 :: u87 :: u88 :: u89 :: u90 :: u91 :: u92 :: u93 :: u94 :: u95 :: u96 :: u97 :: u98 :: u99 :: u100 :: u101 :: u102 :: u103 :: u104 :: u105 :: u106 :: u107 :: u108 :: u109 :: u110 :: u111 :: u112 :: u113 :: u114 :: u115 :: u116 :: u117 :: u118 :: u119 :: u120 :: u121 :: u122 :: u123 :: u124 :: u125 :: u126 :: (.slice (some ⟨gn, 0, none⟩) W cn) :: (.int .i64 (W : Int)) :: (.int .i64 (((cx + 1) : Nat) : Int)) :: v130 :: v131 :: v132 :: v133 :: v134 :: v135 :: v136 :: v137 :: v138 :: v139 :: v140 :: v141 :: v142 :: v143 :: v144 :: v145 :: v146 :: u147 :: u148 :: u149 :: u150 :: u151 :: u152 :: u153 :: u154 :: u155 :: []), []⟩ V)
    (hX : ∀ (v29 v30 v130 v131 v132 v133 v134 v135 v136 v137 v138 v139 v140 v141 v142 v143 v144 v145 v146 : Value), (cx = W) → Q0 (.exit 6) ⟨List.toArray (u0 :: u1 :: (.slice A zs.length cz) :: u3 :: u4 :: u5 :: u6 :: u7 :: u8 :: u9 :: u10 :: u11 :: u12 :: (.pointer (some ⟨ga, 0, none⟩)) :: u14 :: u15 :: u16 :: u17 :: u18 :: u19 :: (.int .i64 (fr : Int)) :: u21 :: u22 :: u23 :: (.int .i64 (i : Int)) :: (.slice Aw 32 cw) :: u26 :: (.int .i64 (ρ : Int)) :: u28 :: v29 :: v30 :: u31 :: u32 :: u33 :: u34 :: u35 :: u36 :: u37 :: u38 :: u39 :: u40 :: u41 :: u42 :: u43 :: u44 :: u45 :: u46 :: u47 :: u48 :: u49 :: u50 :: u51 :: u52 :: u53 :: u54 :: u55 :: u56 :: u57 :: u58 :: u59 :: u60 :: u61 :: u62 :: u63 :: u64 :: u65 :: u66 :: u67 :: u68 :: u69 :: u70 :: u71 :: u72 :: u73 :: u74 :: u75 :: u76 :: u77 :: u78 :: u79 :: u80 :: u81 :: u82 :: u83 :: u84 :: u85 :: u86 :: u87 :: u88 :: u89 :: u90 :: u91 :: u92 :: u93 :: u94 :: u95 :: u96 :: u97 :: u98 :: u99 :: u100 :: u101 :: u102 :: u103 :: u104 :: u105 :: u106 :: u107 :: u108 :: u109 :: u110 :: u111 :: u112 :: u113 :: u114 :: u115 :: u116 :: u117 :: u118 :: u119 :: u120 :: u121 :: u122 :: u123 :: u124 :: u125 :: u126 :: (.slice (some ⟨gn, 0, none⟩) W cn) :: (.int .i64 (W : Int)) :: (.int .i64 ((cx : Nat) : Int)) :: v130 :: v131 :: v132 :: v133 :: v134 :: v135 :: v136 :: v137 :: v138 :: v139 :: v140 :: v141 :: v142 :: v143 :: v144 :: v145 :: v146 :: u147 :: u148 :: u149 :: u150 :: u151 :: u152 :: u153 :: u154 :: u155 :: []), []⟩ w) :
    Code.wp Try.prog (sub [1, 1, 1, 1, 1, 1, 0, 1, 0, 0, 1, 0, 0, 1, 1, 1, 1, 1, 0, 0, 1, 1, 0, 0, 1, 1, 0, 1, 1, 0, 1, 0, 0] codeWL) (Exit.then K Q0) ⟨List.toArray (u0 :: u1 :: (.slice A zs.length cz) :: u3 :: u4 :: u5 :: u6 :: u7 :: u8 :: u9 :: u10 :: u11 :: u12 :: (.pointer (some ⟨ga, 0, none⟩)) :: u14 :: u15 :: u16 :: u17 :: u18 :: u19 :: (.int .i64 (fr : Int)) :: u21 :: u22 :: u23 :: (.int .i64 (i : Int)) :: (.slice Aw 32 cw) :: u26 :: (.int .i64 (ρ : Int)) :: u28 :: u29 :: u30 :: u31 :: u32 :: u33 :: u34 :: u35 :: u36 :: u37 :: u38 :: u39 :: u40 :: u41 :: u42 :: u43 :: u44 :: u45 :: u46 :: u47 :: u48 :: u49 :: u50 :: u51 :: u52 :: u53 :: u54 :: u55 :: u56 :: u57 :: u58 :: u59 :: u60 :: u61 :: u62 :: u63 :: u64 :: u65 :: u66 :: u67 :: u68 :: u69 :: u70 :: u71 :: u72 :: u73 :: u74 :: u75 :: u76 :: u77 :: u78 :: u79 :: u80 :: u81 :: u82 :: u83 :: u84 :: u85 :: u86 :: u87 :: u88 :: u89 :: u90 :: u91 :: u92 :: u93 :: u94 :: u95 :: u96 :: u97 :: u98 :: u99 :: u100 :: u101 :: u102 :: u103 :: u104 :: u105 :: u106 :: u107 :: u108 :: u109 :: u110 :: u111 :: u112 :: u113 :: u114 :: u115 :: u116 :: u117 :: u118 :: u119 :: u120 :: u121 :: u122 :: u123 :: u124 :: u125 :: u126 :: (.slice (some ⟨gn, 0, none⟩) W cn) :: (.int .i64 (W : Int)) :: (.int .i64 ((cx : Nat) : Int)) :: u130 :: u131 :: u132 :: u133 :: u134 :: u135 :: u136 :: u137 :: u138 :: u139 :: u140 :: u141 :: u142 :: u143 :: u144 :: u145 :: u146 :: u147 :: u148 :: u149 :: u150 :: u151 :: u152 :: u153 :: u154 :: u155 :: []), []⟩ w := by
  have HK := Lib.hid hK
  have HX := Lib.hid hX
  clear hK hX
  conv => arg 2; whnf
  obtain ⟨hcW, hk⟩ := hI
  have hw7 := gr.w7
  by_cases hlt : cx < W
  · have i0 : (0 : Int) ≤ (cx : Int) := by omega
    have i1 : (cx : Int) < (W : Int) := by omega
    have hc := (cell_of_row w gn cx _ _ _ (hk.kx.kp _ hN).1).trans (hcur cx hlt)
    obtain ⟨g1, g2, g3⟩ := hk.gat (g := ga) (l := l) (d := (D : Int)) (c := c) (t := 23) (f := (0, 0)) hG
    have hwf : IntKind.i64.wrap ((fr : Int) + (i : Int)) = (fr : Int) + (i : Int) := IntWalk.i64_in _ (by omega)
    by_cases hcq : cx = q
    · subst hcq
      rw [hnum] at hc
      have CD := Lib.hid (ks_data hk gr ρ (by omega) zs.length cz rfl hcz hz)
      have hdl : ((datL zs ρ W).getD cx []).length = 32 := dat32 hlt
      have HL := Lib.hid (datL_len zs ρ W)
      have Hat := Lib.hid (wnB_at zs ρ W cx)
      clear HX hk hcur hz hnum gr hG hN
      go_wp2_with fail
      (with_reducible refine CD.out.mono ?_); rintro e w1 ⟨A', c', rfl, k1⟩
      obtain ⟨bd, od, A2, c2, e2, z2, r2⟩ := (k1.rx (A', datL zs ρ W) (List.mem_cons_self ..)).at (k := cx) (by rw [HL.out]; exact hlt)
      dsimp only at e2 z2 r2
      subst e2
      rw [hdl] at z2
      have K2 := Lib.hid (show KS W0 w1 b H M KL RL [(A2, (datL zs ρ W).getD cx [])] from ⟨k1.kx, fun p hp => k1.rx p (List.mem_cons_of_mem _ hp), fun p hp => by
        rw [List.mem_singleton.1 hp]; exact r2⟩)
      clear k1 r2 CD g1 g2 g3
      go_wp2_with fail
      exact HK.out _ _ _ _ _ _ _ _ _ _ _ _ _ _ _ _ _ _ _ A2 c2 _ ⟨by omega, by rw [Hat.out]; exact K2.out⟩ (by omega)
    · have hne := num_ne gr hq hlt hcq
      rw [hnum] at hne
      obtain ⟨x, hx⟩ : ∃ x, plN l (D : Int) c (ρ : Int) (cx : Int) = x := ⟨_, rfl⟩
      rw [hx] at hc hne
      have hb : (x == (fr : Int) + (i : Int)) = false := by rw [beq_eq_false_iff_ne]; exact hne
      have Hof := Lib.hid (wnB_off (zs := zs) (ρ := ρ) (W := W) hcq)
      have HKS := Lib.hid hk
      clear HX hk hcur hz hnum gr hG hN g1 g2 g3 hne hx
      go_wp2_with fail
      exact HK.out _ _ _ _ _ _ _ _ _ _ _ _ _ _ _ _ _ _ _ Aw cw _ ⟨by omega, by rw [Hof.out]; exact HKS.out⟩ (by omega)
  · have i1 : ¬ (cx : Int) < (W : Int) := by omega
    have Hin := Lib.hid (show cx = W by omega)
    clear HK hk
    go_wp2_with fail
    exact HX.out _ _ _ _ _ _ _ _ _ _ _ _ _ _ _ _ _ _ _ Hin.out
set_option maxRecDepth 100000 in
set_option maxHeartbeats 3200000 in
theorem wlN {W0 : World} {n0 l c : Int} {D F W ρ b ga gn cn q i fr cz : Nat} {A : Option Addr} {zs : List Int} {curn : Array Value} {KL : List (Nat × Obj)} {RL : List (Option Addr × List (List UInt8))} {H : BH} {M : Bch} {Aw0 : Option Addr} {cw0 : Nat} {w : World} (u0 u1 u3 u4 u5 u6 u7 u8 u9 u10 u11 u12 u14 u15 u16 u17 u18 u19 u21 u22 u23 u26 u28 u29 u30 u31 u32 u33 u34 u35 u36 u37 u38 u39 u40 u41 u42 u43 u44 u45 u46 u47 u48 u49 u50 u51 u52 u53 u54 u55 u56 u57 u58 u59 u60 u61 u62 u63 u64 u65 u66 u67 u68 u69 u70 u71 u72 u73 u74 u75 u76 u77 u78 u79 u80 u81 u82 u83 u84 u85 u86 u87 u88 u89 u90 u91 u92 u93 u94 u95 u96 u97 u98 u99 u100 u101 u102 u103 u104 u105 u106 u107 u108 u109 u110 u111 u112 u113 u114 u115 u116 u117 u118 u119 u120 u121 u122 u123 u124 u125 u126 u130 u131 u132 u133 u134 u135 u136 u137 u138 u139 u140 u141 u142 u143 u144 u145 u146 u147 u148 u149 u150 u151 u152 u153 u154 u155 : Value) (Q : Exit → Act → World → Prop) (gr : Gr n0 l c (ρ : Int) D F W) (hρ : ρ < 16) (hcz : zs.length ≤ cz) (hz : RdZ W0 W0.heap.size A zs) (hG : (ga, Obj.cells #[.int .i64 l, .int .i64 (D : Int), .int .i64 c] 23 (0, 0)) ∈ KL) (hN : (gn, Obj.cells curn 3 (0, 0)) ∈ KL) (hcur : ∀ k, k < W → curn[k]? = some (.int .i64 (plN l (D : Int) c (ρ : Int) (k : Int)))) (hq : q < W) (hnum : plN l (D : Int) c (ρ : Int) (q : Int) = (fr : Int) + (i : Int)) (hbd : fr + i ≤ 1000) (hI : (0 ≤ W ∧ KS W0 w b H M KL RL [(Aw0, wnB zs ρ W q 0)]))
    (hX : ∀ (v29 v30 v130 v131 v132 v133 v134 v135 v136 v137 v138 v139 v140 v141 v142 v143 v144 v145 v146 : Value) (cx : Nat) (Aw : Option Addr) (cw : Nat) (V : World), (cx ≤ W ∧ KS W0 V b H M KL RL [(Aw, wnB zs ρ W q cx)]) → (cx = W) → Q (.exit 6) ⟨List.toArray (u0 :: u1 :: (.slice A zs.length cz) :: u3 :: u4 :: u5 :: u6 :: u7 :: u8 :: u9 :: u10 :: u11 :: u12 :: (.pointer (some ⟨ga, 0, none⟩)) :: u14 :: u15 :: u16 :: u17 :: u18 :: u19 :: (.int .i64 (fr : Int)) :: u21 :: u22 :: u23 :: (.int .i64 (i : Int)) :: (.slice Aw 32 cw) :: u26 :: (.int .i64 (ρ : Int)) :: u28 :: v29 :: v30 :: u31 :: u32 :: u33 :: u34 :: u35 :: u36 :: u37 :: u38 :: u39 :: u40 :: u41 :: u42 :: u43 :: u44 :: u45 :: u46 :: u47 :: u48 :: u49 :: u50 :: u51 :: u52 :: u53 :: u54 :: u55 :: u56 :: u57 :: u58 :: u59 :: u60 :: u61 :: u62 :: u63 :: u64 :: u65 :: u66 :: u67 :: u68 :: u69 :: u70 :: u71 :: u72 :: u73 :: u74 :: u75 :: u76 :: u77 :: u78 :: u79 :: u80 :: u81 :: u82 :: u83 :: u84 :: u85 :: u86 :: u87 :: u88 :: u89 :: u90 :: u91 :: u92 :: u93 :: u94 :: u95 :: u96 :: u97 :: u98 :: u99 :: u100 :: u101 :: u102 :: u103 :: u104 :: u105 :: u106 :: u107 :: u108 :: u109 :: u110 :: u111 :: u112 :: u113 :: u114 :: u115 :: u116 :: u117 :: u118 :: u119 :: u120 :: u121 :: u122 :: u123 :: u124 :: u125 :: u126 :: (.slice (some ⟨gn, 0, none⟩) W cn) :: (.int .i64 (W : Int)) :: (.int .i64 ((cx : Nat) : Int)) :: v130 :: v131 :: v132 :: v133 :: v134 :: v135 :: v136 :: v137 :: v138 :: v139 :: v140 :: v141 :: v142 :: v143 :: v144 :: v145 :: v146 :: u147 :: u148 :: u149 :: u150 :: u151 :: u152 :: u153 :: u154 :: u155 :: []), []⟩ V) :
    Code.wp Try.prog (.loop (sub [1, 1, 1, 1, 1, 1, 0, 1, 0, 0, 1, 0, 0, 1, 1, 1, 1, 1, 0, 0, 1, 1, 0, 0, 1, 1, 0, 1, 1, 0, 1, 0, 0] codeWL)) Q ⟨List.toArray (u0 :: u1 :: (.slice A zs.length cz) :: u3 :: u4 :: u5 :: u6 :: u7 :: u8 :: u9 :: u10 :: u11 :: u12 :: (.pointer (some ⟨ga, 0, none⟩)) :: u14 :: u15 :: u16 :: u17 :: u18 :: u19 :: (.int .i64 (fr : Int)) :: u21 :: u22 :: u23 :: (.int .i64 (i : Int)) :: (.slice Aw0 32 cw0) :: u26 :: (.int .i64 (ρ : Int)) :: u28 :: u29 :: u30 :: u31 :: u32 :: u33 :: u34 :: u35 :: u36 :: u37 :: u38 :: u39 :: u40 :: u41 :: u42 :: u43 :: u44 :: u45 :: u46 :: u47 :: u48 :: u49 :: u50 :: u51 :: u52 :: u53 :: u54 :: u55 :: u56 :: u57 :: u58 :: u59 :: u60 :: u61 :: u62 :: u63 :: u64 :: u65 :: u66 :: u67 :: u68 :: u69 :: u70 :: u71 :: u72 :: u73 :: u74 :: u75 :: u76 :: u77 :: u78 :: u79 :: u80 :: u81 :: u82 :: u83 :: u84 :: u85 :: u86 :: u87 :: u88 :: u89 :: u90 :: u91 :: u92 :: u93 :: u94 :: u95 :: u96 :: u97 :: u98 :: u99 :: u100 :: u101 :: u102 :: u103 :: u104 :: u105 :: u106 :: u107 :: u108 :: u109 :: u110 :: u111 :: u112 :: u113 :: u114 :: u115 :: u116 :: u117 :: u118 :: u119 :: u120 :: u121 :: u122 :: u123 :: u124 :: u125 :: u126 :: (.slice (some ⟨gn, 0, none⟩) W cn) :: (.int .i64 (W : Int)) :: (.int .i64 ((0 : Nat) : Int)) :: u130 :: u131 :: u132 :: u133 :: u134 :: u135 :: u136 :: u137 :: u138 :: u139 :: u140 :: u141 :: u142 :: u143 :: u144 :: u145 :: u146 :: u147 :: u148 :: u149 :: u150 :: u151 :: u152 :: u153 :: u154 :: u155 :: []), []⟩ w := by
  refine wp_loop_ghost (fun gk a V => ∀ C : Prop, (∀ (u29 u30 u130 u131 u132 u133 u134 u135 u136 u137 u138 u139 u140 u141 u142 u143 u144 u145 u146 : Value) (cx : Nat) (Aw : Option Addr) (cw : Nat), gk = W - cx → (cx ≤ W ∧ KS W0 V b H M KL RL [(Aw, wnB zs ρ W q cx)]) → a = ⟨List.toArray (u0 :: u1 :: (.slice A zs.length cz) :: u3 :: u4 :: u5 :: u6 :: u7 :: u8 :: u9 :: u10 :: u11 :: u12 :: (.pointer (some ⟨ga, 0, none⟩)) :: u14 :: u15 :: u16 :: u17 :: u18 :: u19 :: (.int .i64 (fr : Int)) :: u21 :: u22 :: u23 :: (.int .i64 (i : Int)) :: (.slice Aw 32 cw) :: u26 :: (.int .i64 (ρ : Int)) :: u28 :: u29 :: u30 :: u31 :: u32 :: u33 :: u34 :: u35 :: u36 :: u37 :: u38 :: u39 :: u40 :: u41 :: u42 :: u43 :: u44 :: u45 :: u46 :: u47 :: u48 :: u49 :: u50 :: u51 :: u52 :: u53 :: u54 :: u55 :: u56 :: u57 :: u58 :: u59 :: u60 :: u61 :: u62 :: u63 :: u64 :: u65 :: u66 :: u67 :: u68 :: u69 :: u70 :: u71 :: u72 :: u73 :: u74 :: u75 :: u76 :: u77 :: u78 :: u79 :: u80 :: u81 :: u82 :: u83 :: u84 :: u85 :: u86 :: u87 :: u88 :: u89 :: u90 :: u91 :: u92 :: u93 :: u94 :: u95 :: u96 :: u97 :: u98 :: u99 :: u100 :: u101 :: u102 :: u103 :: u104 :: u105 :: u106 :: u107 :: u108 :: u109 :: u110 :: u111 :: u112 :: u113 :: u114 :: u115 :: u116 :: u117 :: u118 :: u119 :: u120 :: u121 :: u122 :: u123 :: u124 :: u125 :: u126 :: (.slice (some ⟨gn, 0, none⟩) W cn) :: (.int .i64 (W : Int)) :: (.int .i64 ((cx : Nat) : Int)) :: u130 :: u131 :: u132 :: u133 :: u134 :: u135 :: u136 :: u137 :: u138 :: u139 :: u140 :: u141 :: u142 :: u143 :: u144 :: u145 :: u146 :: u147 :: u148 :: u149 :: u150 :: u151 :: u152 :: u153 :: u154 :: u155 :: []), []⟩ → C) → C) (W - 0) ?_ ?_
  · intro C hC
    exact hC _ _ _ _ _ _ _ _ _ _ _ _ _ _ _ _ _ _ _ (0) (Aw0) (cw0) rfl hI rfl
  · intro gk a V hI'
    refine hI' _ ?_
    intro u29 u30 u130 u131 u132 u133 u134 u135 u136 u137 u138 u139 u140 u141 u142 u143 u144 u145 u146 cx Aw cw hk hinv ha
    subst ha
    subst hk
    refine wlNb _ _ _ _ _ _ _ _ _ _ _ _ _ _ _ _ _ _ _ _ _ _ _ _ _ _ _ _ _ _ _ _ _ _ _ _ _ _ _ _ _ _ _ _ _ _ _ _ _ _ _ _ _ _ _ _ _ _ _ _ _ _ _ _ _ _ _ _ _ _ _ _ _ _ _ _ _ _ _ _ _ _ _ _ _ _ _ _ _ _ _ _ _ _ _ _ _ _ _ _ _ _ _ _ _ _ _ _ _ _ _ _ _ _ _ _ _ _ _ _ _ _ _ _ _ _ _ _ _ _ _ _ _ _ _ _ _ _ _ _ _ _ _ _ _ _ _ _ _ gr hρ hcz hz hG hN hcur hq hnum hbd hinv (fun v29 v30 v130 v131 v132 v133 v134 v135 v136 v137 v138 v139 v140 v141 v142 v143 v144 v145 v146 Aw2 cw2 V2 h2 hm => ?_) (fun v29 v30 v130 v131 v132 v133 v134 v135 v136 v137 v138 v139 v140 v141 v142 v143 v144 v145 v146 hx => hX v29 v30 v130 v131 v132 v133 v134 v135 v136 v137 v138 v139 v140 v141 v142 v143 v144 v145 v146 cx Aw cw V hinv hx)
    refine ⟨_, hm, fun C hC => ?_⟩
    exact hC v29 v30 v130 v131 v132 v133 v134 v135 v136 v137 v138 v139 v140 v141 v142 v143 v144 v145 v146 ((cx + 1)) (Aw2) (cw2) rfl h2 rfl
set_option maxRecDepth 100000 in
set_option maxHeartbeats 3200000 in
theorem wlIb {W0 : World} {l c : Int} {D b ga fr mm cz cd : Nat} {A Ad : Option Addr} {zs : List Int} {KL : List (Nat × Obj)} {RL : List (Option Addr × List (List UInt8))} {H : BH} {M : Bch} {ix : Nat} {w : World} (u0 u1 u3 u4 u5 u6 u7 u8 u9 u10 u11 u12 u14 u15 u16 u17 u18 u19 u21 u23 u24 u25 u26 u27 u28 u29 u30 u31 u32 u33 u34 u35 u36 u37 u38 u39 u40 u41 u42 u43 u44 u45 u46 u47 u48 u49 u50 u51 u52 u53 u54 u55 u56 u57 u58 u59 u60 u61 u62 u63 u64 u65 u66 u67 u68 u69 u70 u71 u72 u73 u74 u75 u76 u77 u78 u79 u80 u81 u82 u83 u84 u85 u86 u87 u88 u89 u90 u91 u92 u93 u94 u95 u96 u97 u98 u99 u100 u101 u102 u103 u104 u105 u106 u107 u108 u109 u112 u113 u114 u115 u116 u117 u118 u119 u120 u121 u122 u123 u124 u125 u126 u127 u128 u129 u130 u131 u132 u133 u134 u135 u136 u137 u138 u139 u140 u141 u142 u143 u144 u145 u146 u147 u148 u149 u150 u151 u152 u153 u154 u155 : Value) (K : Act → World → Prop) (Q0 : Exit → Act → World → Prop) (hg : gOk l (D : Int) c = true) (hcz : zs.length ≤ cz) (hz : RdZ W0 W0.heap.size A zs) (hG : (ga, Obj.cells #[.int .i64 l, .int .i64 (D : Int), .int .i64 c] 23 (0, 0)) ∈ KL) (hfr : fr ≤ 500) (hmm : mm ≤ 28) (hR : (Ad, wlist (gCap l (D : Int) c) (valOf l (D : Int) c (fun t => datL zs t (roW l (D : Int)))) (fr : Int) mm) ∈ RL) (hI : (ix ≤ mm ∧ KS W0 w b H M KL RL []))
    (hK : ∀ (v12 v24 v25 v26 v27 v28 v29 v30 v112 v113 v114 v115 v116 v117 v118 v119 v120 v121 v122 v123 v124 v125 v126 v127 v128 v129 v130 v131 v132 v133 v134 v135 v136 v137 v138 v139 v140 v141 v142 v143 v144 v145 v146 v147 v148 v149 v150 v151 v152 v153 v154 : Value)  (V : World), ((ix + 1) ≤ mm ∧ KS W0 V b H M KL RL []) → mm - (ix + 1) < mm - ix → K ⟨List.toArray (u0 :: u1 :: (.slice A zs.length cz) :: u3 :: u4 :: u5 :: u6 :: u7 :: u8 :: u9 :: u10 :: u11 :: v12 :: (.pointer (some ⟨ga, 0, none⟩)) :: u14 :: u15 :: u16 :: u17 :: u18 :: u19 :: (.int .i64 (fr : Int)) :: u21 :: (.slice Ad mm cd) :: u23 :: v24 :: v25 :: v26 :: v27 :: v28 :: v29 :: v30 :: u31 :: u32 :: u33 :: u34 :: u35 :: u36 :: u37 :: u38 :: u39 :: u40 :: u41 :: u42 :: u43 :: u44 :: u45 :: u46 :: u47 :: u48 :: u49 :: u50 :: u51 :: u52 :: u53 :: u54 :: u55 :: u56 :: u57 :: u58 :: u59 :: u60 :: u61 :: u62 :: u63 :: u64 :: u65 :: u66 :: u67 :: u68 :: u69 :: u70 :: u71 :: u72 :: u73 :: u74 :: u75 :: u76 :: u77 :: u78 :: u79 :: u80 :: u81 :: u82 :: u83 :: u84 :: u85 :: u86 :: u87 :: u88 :: u89 :: u90 :: u91 :: u92 :: u93 :: u94 :: u95 :: u96 :: u97 :: u98 :: u99 :: u100 :: u101 :: u102 :: u103 :: u104 :: u105 :: u106 :: u107 :: u108 :: u109 :: (.int .i64 (mm : Int)) :: (.int .i64 (((ix + 1) : Nat) : Int)) :: v112 :: v113 :: v114 :: v115 :: v116 :: v117 :: v118 :: v119 :: v120 :: v121 :: v122 :: v123 :: v124 :: v125 :: v126 :: v127 :: v128 :: v129 :: v130 :: v131 :: v132 :: v133 :: v134 :: v135 :: v136 :: v137 :: v138 :: v139 :: v140 :: v141 :: v142 :: v143 :: v144 :: v145 :: v146 :: v147 :: v148 :: v149 :: v150 :: v151 :: v152 :: v153 :: v154 :: u155 :: []), []⟩ V)
    (hX : ∀ (v12 v24 v25 v26 v27 v28 v29 v30 v112 v113 v114 v115 v116 v117 v118 v119 v120 v121 v122 v123 v124 v125 v126 v127 v128 v129 v130 v131 v132 v133 v134 v135 v136 v137 v138 v139 v140 v141 v142 v143 v144 v145 v146 v147 v148 v149 v150 v151 v152 v153 v154 : Value), (ix = mm) → Q0 (.exit 4) ⟨List.toArray (u0 :: u1 :: (.slice A zs.length cz) :: u3 :: u4 :: u5 :: u6 :: u7 :: u8 :: u9 :: u10 :: u11 :: v12 :: (.pointer (some ⟨ga, 0, none⟩)) :: u14 :: u15 :: u16 :: u17 :: u18 :: u19 :: (.int .i64 (fr : Int)) :: u21 :: (.slice Ad mm cd) :: u23 :: v24 :: v25 :: v26 :: v27 :: v28 :: v29 :: v30 :: u31 :: u32 :: u33 :: u34 :: u35 :: u36 :: u37 :: u38 :: u39 :: u40 :: u41 :: u42 :: u43 :: u44 :: u45 :: u46 :: u47 :: u48 :: u49 :: u50 :: u51 :: u52 :: u53 :: u54 :: u55 :: u56 :: u57 :: u58 :: u59 :: u60 :: u61 :: u62 :: u63 :: u64 :: u65 :: u66 :: u67 :: u68 :: u69 :: u70 :: u71 :: u72 :: u73 :: u74 :: u75 :: u76 :: u77 :: u78 :: u79 :: u80 :: u81 :: u82 :: u83 :: u84 :: u85 :: u86 :: u87 :: u88 :: u89 :: u90 :: u91 :: u92 :: u93 :: u94 :: u95 :: u96 :: u97 :: u98 :: u99 :: u100 :: u101 :: u102 :: u103 :: u104 :: u105 :: u106 :: u107 :: u108 :: u109 :: (.int .i64 (mm : Int)) :: (.int .i64 ((ix : Nat) : Int)) :: v112 :: v113 :: v114 :: v115 :: v116 :: v117 :: v118 :: v119 :: v120 :: v121 :: v122 :: v123 :: v124 :: v125 :: v126 :: v127 :: v128 :: v129 :: v130 :: v131 :: v132 :: v133 :: v134 :: v135 :: v136 :: v137 :: v138 :: v139 :: v140 :: v141 :: v142 :: v143 :: v144 :: v145 :: v146 :: v147 :: v148 :: v149 :: v150 :: v151 :: v152 :: v153 :: v154 :: u155 :: []), []⟩ w) :
    Code.wp Try.prog (sub [1, 1, 1, 1, 1, 1, 0, 1, 0, 0, 1, 0, 0, 1, 1, 1, 1, 1, 0, 0] codeWL) (Exit.then K Q0) ⟨List.toArray (u0 :: u1 :: (.slice A zs.length cz) :: u3 :: u4 :: u5 :: u6 :: u7 :: u8 :: u9 :: u10 :: u11 :: u12 :: (.pointer (some ⟨ga, 0, none⟩)) :: u14 :: u15 :: u16 :: u17 :: u18 :: u19 :: (.int .i64 (fr : Int)) :: u21 :: (.slice Ad mm cd) :: u23 :: u24 :: u25 :: u26 :: u27 :: u28 :: u29 :: u30 :: u31 :: u32 :: u33 :: u34 :: u35 :: u36 :: u37 :: u38 :: u39 :: u40 :: u41 :: u42 :: u43 :: u44 :: u45 :: u46 :: u47 :: u48 :: u49 :: u50 :: u51 :: u52 :: u53 :: u54 :: u55 :: u56 :: u57 :: u58 :: u59 :: u60 :: u61 :: u62 :: u63 :: u64 :: u65 :: u66 :: u67 :: u68 :: u69 :: u70 :: u71 :: u72 :: u73 :: u74 :: u75 :: u76 :: u77 :: u78 :: u79 :: u80 :: u81 :: u82 :: u83 :: u84 :: u85 :: u86 :: u87 :: u88 :: u89 :: u90 :: u91 :: u92 :: u93 :: u94 :: u95 :: u96 :: u97 :: u98 :: u99 :: u100 :: u101 :: u102 :: u103 :: u104 :: u105 :: u106 :: u107 :: u108 :: u109 :: (.int .i64 (mm : Int)) :: (.int .i64 ((ix : Nat) : Int)) :: u112 :: u113 :: u114 :: u115 :: u116 :: u117 :: u118 :: u119 :: u120 :: u121 :: u122 :: u123 :: u124 :: u125 :: u126 :: u127 :: u128 :: u129 :: u130 :: u131 :: u132 :: u133 :: u134 :: u135 :: u136 :: u137 :: u138 :: u139 :: u140 :: u141 :: u142 :: u143 :: u144 :: u145 :: u146 :: u147 :: u148 :: u149 :: u150 :: u151 :: u152 :: u153 :: u154 :: u155 :: []), []⟩ w := by
  have HK := Lib.hid hK
  have HX := Lib.hid hX
  clear hK hX
  conv => arg 2; whnf
  obtain ⟨him, hk⟩ := hI
  have hb8 := gOk_bd hg
  by_cases hlt : ix < mm
  · have i0 : (0 : Int) ≤ (ix : Int) := by omega
    have i1 : (ix : Int) < (mm : Int) := by omega
    have hmk : ∀ w, (Instr.makeSlice 54 (.int .i64 32) (.int .i64 32)).run Try.prog w = .ok (.slice (some ⟨w.heap.size, 0, none⟩) 32 32) (w.alloc (.cells (zcells 32) 5)) := make_bytes 32 (by omega)
    have hwf : IntKind.i64.wrap ((fr : Int) + (ix : Int)) = (fr : Int) + (ix : Int) := IntWalk.i64_in _ (by omega)
    have CO := fun V => refOf_any l (D : Int) c ((fr : Int) + (ix : Int)) V (by omega) (by omega) (by omega) (by omega)
    have k1 := hk.slice (below1 w (.cells (zcells 32) 5)) (winZero w w.heap.size (Nat.le_refl _))
    have K1 := Lib.hid k1
    obtain ⟨g1, g2, g3⟩ := k1.gat (g := ga) (l := l) (d := (D : Int)) (c := c) (t := 23) (f := (0, 0)) hG
    have hxe : (wlist (gCap l (D : Int) c) (valOf l (D : Int) c (fun t => datL zs t (roW l (D : Int)))) (fr : Int) mm).getD ix [] = upTo (gCap l (D : Int) c) (valOf l (D : Int) c (fun t => datL zs t (roW l (D : Int)))) ((fr : Int) + (ix : Int)) := wlist_get hlt
    have hwl := wlist_len (gCap l (D : Int) c) (valOf l (D : Int) c (fun t => datL zs t (roW l (D : Int)))) (fr : Int) mm
    by_cases hcp : (fr : Int) + (ix : Int) < gCap l (D : Int) c
    · obtain ⟨ρ, q, hρ, hq, e1, e2, e3, e4⟩ := num_at hg (show 0 ≤ (fr : Int) + (ix : Int) by omega) hcp
      simp only [e1, e2] at CO
      have CO := Lib.hid CO
      have gr := gr_mk (l := l) (c := c) (r := (ρ : Int)) (D := D) hg (by omega) (by omega)
      have Grs := Lib.hid gr
      have hx2 : (wlist (gCap l (D : Int) c) (valOf l (D : Int) c (fun t => datL zs t (roW l (D : Int)))) (fr : Int) mm).getD ix [] = (datL zs ρ (roW l (D : Int))).getD q [] := by
        rw [hxe]; unfold upTo; rw [if_pos hcp]; exact e4 _
      have hxl : ((datL zs ρ (roW l (D : Int))).getD q []).length = 32 := dat32 hq
      have Hx2 := Lib.hid hx2
      have He3 := Lib.hid e3
      have HRm := Lib.hid hR
      have HGm := Lib.hid hG
      have Hwl := Lib.hid hwl
      have HZ := Lib.hid hz
      generalize plOfD l (D : Int) c ((fr : Int) + (ix : Int)) = dz at CO
      clear HX hk k1 hxe hx2 e3 e4 e1 e2 hR hG hwl hz gr hg hcp
      go_wp2_with fail
      (with_reducible refine (CO.out _).mono ?_); rintro e w1 ⟨rfl, hb1⟩
      have K2 := Lib.hid (K1.out.below hb1)
      have CN := Lib.hid (ks_numsG K2.out Grs.out)
      clear g1 g2 g3
      obtain ⟨g1, g2, g3⟩ := K2.out.gat (g := ga) (l := l) (d := (D : Int)) (c := c) (t := 23) (f := (0, 0)) HGm.out
      clear hb1 K1 CO
      go_wp2_with fail
      (with_reducible refine CN.out.mono ?_); rintro e w2 ⟨gn, cn, curn, rfl, k3, hcur, _⟩
      have K3 := Lib.hid k3
      have Hcur := Lib.hid hcur
      clear k3 hcur CN K2 g1 g2 g3
      go_upto_block 6 with fail
      refine wp_block ?_
      refine wlN _ _ _ _ _ _ _ _ _ _ _ _ _ _ _ _ _ _ _ _ _ _ _ _ _ _ _ _ _ _ _ _ _ _ _ _ _ _ _ _ _ _ _ _ _ _ _ _ _ _ _ _ _ _ _ _ _ _ _ _ _ _ _ _ _ _ _ _ _ _ _ _ _ _ _ _ _ _ _ _ _ _ _ _ _ _ _ _ _ _ _ _ _ _ _ _ _ _ _ _ _ _ _ _ _ _ _ _ _ _ _ _ _ _ _ _ _ _ _ _ _ _ _ _ _ _ _ _ _ _ _ _ _ _ _ _ _ _ _ _ _ _ _ _ _ _ _ _ Grs.out hρ hcz HZ.out (List.mem_cons_of_mem _ HGm.out) (List.mem_cons_self ..) Hcur.out hq He3.out (by omega) ⟨Nat.zero_le _, by rw [wnB_zero]; exact K3.out⟩ (fun v29 v30 v130 v131 v132 v133 v134 v135 v136 v137 v138 v139 v140 v141 v142 v143 v144 v145 v146 cx Aw cw V4 hI4 hx4 => ?_)
      subst hx4
      have k4 := hI4.2
      rw [wnB_all hq] at k4
      have K4 := Lib.hid (show KS W0 V4 b H M KL RL [(Aw, (datL zs ρ (roW l (D : Int))).getD q [])] from k4.less (fun p hp => List.mem_cons_of_mem _ hp) (fun p hp => hp) (fun p hp => hp))
      clear hI4 k4 K3 Hcur
      obtain ⟨bx, ox, A2, c2, e5, z2, r2⟩ := (K4.out.rx _ HRm.out).at (k := ix) (by show ix < List.length _; rw [Hwl.out]; exact hlt)
      dsimp only at e5 z2 r2
      subst e5
      rw [Hx2.out] at z2 r2
      have CS := sameT_any (c := c2) (c' := cw) hxl.symm hxl.symm r2.rdb (K4.out.sl (A := Aw) (bs := (datL zs ρ (roW l (D : Int))).getD q []) (List.mem_cons_self ..))
      rw [hxl] at z2
      have CS := Lib.hid CS
      clear r2
      go_wp2_with fail
      (with_reducible refine CS.out.mono ?_); rintro e w5 ⟨rfl, m2, rfl⟩
      have K5 := Lib.hid ((K4.out.below (belowN _ _ m2)).less (K' := KL) (R' := RL) (S' := []) (fun p hp => hp) (fun p hp => hp) (fun p hp => by cases hp))
      clear CS K4
      go_wp2_with fail
      exact HK.out _ _ _ _ _ _ _ _ _ _ _ _ _ _ _ _ _ _ _ _ _ _ _ _ _ _ _ _ _ _ _ _ _ _ _ _ _ _ _ _ _ _ _ _ _ _ _ _ _ _ _ _ ⟨by omega, K5.out⟩ (by omega)
    · have e2 := plOfOk_no (l := l) (d := (D : Int)) (c := c) (n := (fr : Int) + (ix : Int)) (fun h => hcp h.2)
      simp only [e2] at CO
      have CO := Lib.hid CO
      have hx2 : (wlist (gCap l (D : Int) c) (valOf l (D : Int) c (fun t => datL zs t (roW l (D : Int)))) (fr : Int) mm).getD ix [] = zeroL 32 := by
        rw [hxe]; unfold upTo; rw [if_neg hcp]
      have Hx2 := Lib.hid hx2
      have HRm := Lib.hid hR
      have Hwl := Lib.hid hwl
      generalize plOfD l (D : Int) c ((fr : Int) + (ix : Int)) = dz at CO
      generalize plOfR l (D : Int) c ((fr : Int) + (ix : Int)) = rz at CO
      clear HX hk k1 hxe hx2 e2 hR hG hwl hz hg hcp
      go_wp2_with fail
      (with_reducible refine (CO.out _).mono ?_); rintro e w1 ⟨rfl, hb1⟩
      have K4 := Lib.hid (K1.out.below hb1)
      obtain ⟨bx, ox, A2, c2, e5, z2, r2⟩ := (K4.out.rx _ HRm.out).at (k := ix) (by show ix < List.length _; rw [Hwl.out]; exact hlt)
      dsimp only at e5 z2 r2
      subst e5
      rw [Hx2.out] at z2 r2
      have CS := Lib.hid (sameT_any (n := 32) (n' := 32) (c := c2) (c' := 32) (bs := zeroL 32) rfl rfl r2.rdb (K4.out.sl (bs := zeroL 32) (List.mem_cons_self ..)))
      have hz32 : (zeroL 32).length = 32 := rfl
      rw [hz32] at z2
      clear r2 hb1 K1 CO g1 g2 g3 hz32
      go_wp2_with fail
      (with_reducible refine CS.out.mono ?_); rintro e w5 ⟨rfl, m2, rfl⟩
      have K5 := Lib.hid ((K4.out.below (belowN _ _ m2)).less (K' := KL) (R' := RL) (S' := []) (fun p hp => hp) (fun p hp => hp) (fun p hp => by cases hp))
      clear CS K4
      go_wp2_with fail
      exact HK.out _ _ _ _ _ _ _ _ _ _ _ _ _ _ _ _ _ _ _ _ _ _ _ _ _ _ _ _ _ _ _ _ _ _ _ _ _ _ _ _ _ _ _ _ _ _ _ _ _ _ _ _ ⟨by omega, K5.out⟩ (by omega)
  · have i1 : ¬ (ix : Int) < (mm : Int) := by omega
    have Hin := Lib.hid (show ix = mm by omega)
    clear HK hk
    go_wp2_with fail
    exact HX.out _ _ _ _ _ _ _ _ _ _ _ _ _ _ _ _ _ _ _ _ _ _ _ _ _ _ _ _ _ _ _ _ _ _ _ _ _ _ _ _ _ _ _ _ _ _ _ _ _ _ _ Hin.out
set_option maxRecDepth 100000 in
set_option maxHeartbeats 3200000 in
theorem wlI {W0 : World} {l c : Int} {D b ga fr mm cz cd : Nat} {A Ad : Option Addr} {zs : List Int} {KL : List (Nat × Obj)} {RL : List (Option Addr × List (List UInt8))} {H : BH} {M : Bch}  {w : World} (u0 u1 u3 u4 u5 u6 u7 u8 u9 u10 u11 u12 u14 u15 u16 u17 u18 u19 u21 u23 u24 u25 u26 u27 u28 u29 u30 u31 u32 u33 u34 u35 u36 u37 u38 u39 u40 u41 u42 u43 u44 u45 u46 u47 u48 u49 u50 u51 u52 u53 u54 u55 u56 u57 u58 u59 u60 u61 u62 u63 u64 u65 u66 u67 u68 u69 u70 u71 u72 u73 u74 u75 u76 u77 u78 u79 u80 u81 u82 u83 u84 u85 u86 u87 u88 u89 u90 u91 u92 u93 u94 u95 u96 u97 u98 u99 u100 u101 u102 u103 u104 u105 u106 u107 u108 u109 u112 u113 u114 u115 u116 u117 u118 u119 u120 u121 u122 u123 u124 u125 u126 u127 u128 u129 u130 u131 u132 u133 u134 u135 u136 u137 u138 u139 u140 u141 u142 u143 u144 u145 u146 u147 u148 u149 u150 u151 u152 u153 u154 u155 : Value) (Q : Exit → Act → World → Prop) (hg : gOk l (D : Int) c = true) (hcz : zs.length ≤ cz) (hz : RdZ W0 W0.heap.size A zs) (hG : (ga, Obj.cells #[.int .i64 l, .int .i64 (D : Int), .int .i64 c] 23 (0, 0)) ∈ KL) (hfr : fr ≤ 500) (hmm : mm ≤ 28) (hR : (Ad, wlist (gCap l (D : Int) c) (valOf l (D : Int) c (fun t => datL zs t (roW l (D : Int)))) (fr : Int) mm) ∈ RL) (hI : (0 ≤ mm ∧ KS W0 w b H M KL RL []))
    (hX : ∀ (v12 v24 v25 v26 v27 v28 v29 v30 v112 v113 v114 v115 v116 v117 v118 v119 v120 v121 v122 v123 v124 v125 v126 v127 v128 v129 v130 v131 v132 v133 v134 v135 v136 v137 v138 v139 v140 v141 v142 v143 v144 v145 v146 v147 v148 v149 v150 v151 v152 v153 v154 : Value) (ix : Nat) (V : World), (ix ≤ mm ∧ KS W0 V b H M KL RL []) → (ix = mm) → Q (.exit 4) ⟨List.toArray (u0 :: u1 :: (.slice A zs.length cz) :: u3 :: u4 :: u5 :: u6 :: u7 :: u8 :: u9 :: u10 :: u11 :: v12 :: (.pointer (some ⟨ga, 0, none⟩)) :: u14 :: u15 :: u16 :: u17 :: u18 :: u19 :: (.int .i64 (fr : Int)) :: u21 :: (.slice Ad mm cd) :: u23 :: v24 :: v25 :: v26 :: v27 :: v28 :: v29 :: v30 :: u31 :: u32 :: u33 :: u34 :: u35 :: u36 :: u37 :: u38 :: u39 :: u40 :: u41 :: u42 :: u43 :: u44 :: u45 :: u46 :: u47 :: u48 :: u49 :: u50 :: u51 :: u52 :: u53 :: u54 :: u55 :: u56 :: u57 :: u58 :: u59 :: u60 :: u61 :: u62 :: u63 :: u64 :: u65 :: u66 :: u67 :: u68 :: u69 :: u70 :: u71 :: u72 :: u73 :: u74 :: u75 :: u76 :: u77 :: u78 :: u79 :: u80 :: u81 :: u82 :: u83 :: u84 :: u85 :: u86 :: u87 :: u88 :: u89 :: u90 :: u91 :: u92 :: u93 :: u94 :: u95 :: u96 :: u97 :: u98 :: u99 :: u100 :: u101 :: u102 :: u103 :: u104 :: u105 :: u106 :: u107 :: u108 :: u109 :: (.int .i64 (mm : Int)) :: (.int .i64 ((ix : Nat) : Int)) :: v112 :: v113 :: v114 :: v115 :: v116 :: v117 :: v118 :: v119 :: v120 :: v121 :: v122 :: v123 :: v124 :: v125 :: v126 :: v127 :: v128 :: v129 :: v130 :: v131 :: v132 :: v133 :: v134 :: v135 :: v136 :: v137 :: v138 :: v139 :: v140 :: v141 :: v142 :: v143 :: v144 :: v145 :: v146 :: v147 :: v148 :: v149 :: v150 :: v151 :: v152 :: v153 :: v154 :: u155 :: []), []⟩ V) :
    Code.wp Try.prog (.loop (sub [1, 1, 1, 1, 1, 1, 0, 1, 0, 0, 1, 0, 0, 1, 1, 1, 1, 1, 0, 0] codeWL)) Q ⟨List.toArray (u0 :: u1 :: (.slice A zs.length cz) :: u3 :: u4 :: u5 :: u6 :: u7 :: u8 :: u9 :: u10 :: u11 :: u12 :: (.pointer (some ⟨ga, 0, none⟩)) :: u14 :: u15 :: u16 :: u17 :: u18 :: u19 :: (.int .i64 (fr : Int)) :: u21 :: (.slice Ad mm cd) :: u23 :: u24 :: u25 :: u26 :: u27 :: u28 :: u29 :: u30 :: u31 :: u32 :: u33 :: u34 :: u35 :: u36 :: u37 :: u38 :: u39 :: u40 :: u41 :: u42 :: u43 :: u44 :: u45 :: u46 :: u47 :: u48 :: u49 :: u50 :: u51 :: u52 :: u53 :: u54 :: u55 :: u56 :: u57 :: u58 :: u59 :: u60 :: u61 :: u62 :: u63 :: u64 :: u65 :: u66 :: u67 :: u68 :: u69 :: u70 :: u71 :: u72 :: u73 :: u74 :: u75 :: u76 :: u77 :: u78 :: u79 :: u80 :: u81 :: u82 :: u83 :: u84 :: u85 :: u86 :: u87 :: u88 :: u89 :: u90 :: u91 :: u92 :: u93 :: u94 :: u95 :: u96 :: u97 :: u98 :: u99 :: u100 :: u101 :: u102 :: u103 :: u104 :: u105 :: u106 :: u107 :: u108 :: u109 :: (.int .i64 (mm : Int)) :: (.int .i64 ((0 : Nat) : Int)) :: u112 :: u113 :: u114 :: u115 :: u116 :: u117 :: u118 :: u119 :: u120 :: u121 :: u122 :: u123 :: u124 :: u125 :: u126 :: u127 :: u128 :: u129 :: u130 :: u131 :: u132 :: u133 :: u134 :: u135 :: u136 :: u137 :: u138 :: u139 :: u140 :: u141 :: u142 :: u143 :: u144 :: u145 :: u146 :: u147 :: u148 :: u149 :: u150 :: u151 :: u152 :: u153 :: u154 :: u155 :: []), []⟩ w := by
  refine wp_loop_ghost (fun gk a V => ∀ C : Prop, (∀ (u12 u24 u25 u26 u27 u28 u29 u30 u112 u113 u114 u115 u116 u117 u118 u119 u120 u121 u122 u123 u124 u125 u126 u127 u128 u129 u130 u131 u132 u133 u134 u135 u136 u137 u138 u139 u140 u141 u142 u143 u144 u145 u146 u147 u148 u149 u150 u151 u152 u153 u154 : Value) (ix : Nat), gk = mm - ix → (ix ≤ mm ∧ KS W0 V b H M KL RL []) → a = ⟨List.toArray (u0 :: u1 :: (.slice A zs.length cz) :: u3 :: u4 :: u5 :: u6 :: u7 :: u8 :: u9 :: u10 :: u11 :: u12 :: (.pointer (some ⟨ga, 0, none⟩)) :: u14 :: u15 :: u16 :: u17 :: u18 :: u19 :: (.int .i64 (fr : Int)) :: u21 :: (.slice Ad mm cd) :: u23 :: u24 :: u25 :: u26 :: u27 :: u28 :: u29 :: u30 :: u31 :: u32 :: u33 :: u34 :: u35 :: u36 :: u37 :: u38 :: u39 :: u40 :: u41 :: u42 :: u43 :: u44 :: u45 :: u46 :: u47 :: u48 :: u49 :: u50 :: u51 :: u52 :: u53 :: u54 :: u55 :: u56 :: u57 :: u58 :: u59 :: u60 :: u61 :: u62 :: u63 :: u64 :: u65 :: u66 :: u67 :: u68 :: u69 :: u70 :: u71 :: u72 :: u73 :: u74 :: u75 :: u76 :: u77 :: u78 :: u79 :: u80 :: u81 :: u82 :: u83 :: u84 :: u85 :: u86 :: u87 :: u88 :: u89 :: u90 :: u91 :: u92 :: u93 :: u94 :: u95 :: u96 :: u97 :: u98 :: u99 :: u100 :: u101 :: u102 :: u103 :: u104 :: u105 :: u106 :: u107 :: u108 :: u109 :: (.int .i64 (mm : Int)) :: (.int .i64 ((ix : Nat) : Int)) :: u112 :: u113 :: u114 :: u115 :: u116 :: u117 :: u118 :: u119 :: u120 :: u121 :: u122 :: u123 :: u124 :: u125 :: u126 :: u127 :: u128 :: u129 :: u130 :: u131 :: u132 :: u133 :: u134 :: u135 :: u136 :: u137 :: u138 :: u139 :: u140 :: u141 :: u142 :: u143 :: u144 :: u145 :: u146 :: u147 :: u148 :: u149 :: u150 :: u151 :: u152 :: u153 :: u154 :: u155 :: []), []⟩ → C) → C) (mm - 0) ?_ ?_
  · intro C hC
    exact hC _ _ _ _ _ _ _ _ _ _ _ _ _ _ _ _ _ _ _ _ _ _ _ _ _ _ _ _ _ _ _ _ _ _ _ _ _ _ _ _ _ _ _ _ _ _ _ _ _ _ _ (0) rfl hI rfl
  · intro gk a V hI'
    refine hI' _ ?_
    intro u12 u24 u25 u26 u27 u28 u29 u30 u112 u113 u114 u115 u116 u117 u118 u119 u120 u121 u122 u123 u124 u125 u126 u127 u128 u129 u130 u131 u132 u133 u134 u135 u136 u137 u138 u139 u140 u141 u142 u143 u144 u145 u146 u147 u148 u149 u150 u151 u152 u153 u154 ix hk hinv ha
    subst ha
    subst hk
    refine wlIb _ _ _ _ _ _ _ _ _ _ _ _ _ _ _ _ _ _ _ _ _ _ _ _ _ _ _ _ _ _ _ _ _ _ _ _ _ _ _ _ _ _ _ _ _ _ _ _ _ _ _ _ _ _ _ _ _ _ _ _ _ _ _ _ _ _ _ _ _ _ _ _ _ _ _ _ _ _ _ _ _ _ _ _ _ _ _ _ _ _ _ _ _ _ _ _ _ _ _ _ _ _ _ _ _ _ _ _ _ _ _ _ _ _ _ _ _ _ _ _ _ _ _ _ _ _ _ _ _ _ _ _ _ _ _ _ _ _ _ _ _ _ _ _ _ _ _ _ _ _ _ _ hg hcz hz hG hfr hmm hR hinv (fun v12 v24 v25 v26 v27 v28 v29 v30 v112 v113 v114 v115 v116 v117 v118 v119 v120 v121 v122 v123 v124 v125 v126 v127 v128 v129 v130 v131 v132 v133 v134 v135 v136 v137 v138 v139 v140 v141 v142 v143 v144 v145 v146 v147 v148 v149 v150 v151 v152 v153 v154  V2 h2 hm => ?_) (fun v12 v24 v25 v26 v27 v28 v29 v30 v112 v113 v114 v115 v116 v117 v118 v119 v120 v121 v122 v123 v124 v125 v126 v127 v128 v129 v130 v131 v132 v133 v134 v135 v136 v137 v138 v139 v140 v141 v142 v143 v144 v145 v146 v147 v148 v149 v150 v151 v152 v153 v154 hx => hX v12 v24 v25 v26 v27 v28 v29 v30 v112 v113 v114 v115 v116 v117 v118 v119 v120 v121 v122 v123 v124 v125 v126 v127 v128 v129 v130 v131 v132 v133 v134 v135 v136 v137 v138 v139 v140 v141 v142 v143 v144 v145 v146 v147 v148 v149 v150 v151 v152 v153 v154 ix V hinv hx)
    refine ⟨_, hm, fun C hC => ?_⟩
    exact hC v12 v24 v25 v26 v27 v28 v29 v30 v112 v113 v114 v115 v116 v117 v118 v119 v120 v121 v122 v123 v124 v125 v126 v127 v128 v129 v130 v131 v132 v133 v134 v135 v136 v137 v138 v139 v140 v141 v142 v143 v144 v145 v146 v147 v148 v149 v150 v151 v152 v153 v154 ((ix + 1)) rfl h2 rfl
end Go.Proofs.Ytldfoadildaljaa
end
