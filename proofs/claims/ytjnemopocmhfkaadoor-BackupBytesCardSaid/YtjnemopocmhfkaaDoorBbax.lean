/- Texts put together: BackupBytesLoops, BackupBytesMid. -/
import Derived.Test.YtjnemopocmhfkaaDoorBbaw
import Derived.Test.YtjnemopocmhfkaaDoorBbab
import Derived.Test.YtjnemopocmhfkaaDoorBbaa
import Derived.Test.YtjnemopocmhfkaaDoorBbad
import Derived.Test.YtjnemopocmhfkaaDoorBbah
import Derived.Test.YtjnemopocmhfkaaDoorBban
section
set_option linter.unusedVariables false
set_option linter.unusedSimpArgs false
namespace Go.Proofs.YtjnemopocmhfkaaDoor
open Go.RowKit

noncomputable def codeBB : Code := Tryd.f6.body.getD .skip
set_option maxRecDepth 100000 in
set_option maxHeartbeats 3200000 in
theorem bbBb {W0 : World} {A Ah : Option Addr} {en xn n c ch b gl d : Nat} {lv : List Bool} {hd : List UInt8} {ds : List (List UInt8)} {H : BH} {M : Bch} {i : Nat} {w : World} (u3 u4 u5 u6 u7 u8 u9 u10 u11 u14 u17 u18 u19 u20 u24 u25 u26 u27 u28 u29 u30 u31 u32 u33 u34 u35 u36 u37 u38 u39 u40 u41 u42 u43 u44 u45 u46 u47 u48 u49 u50 u51 u52 u53 u54 u55 u56 u57 u58 u59 u60 u61 u62 u63 u64 u65 u66 u67 u68 u69 u70 u71 u72 u73 u74 u75 u76 u77 u78 u79 u80 u81 u82 u83 u84 u85 u86 u87 u88 u89 u90 u91 u92 u93 u94 u95 u96 u97 u98 u99 u100 u101 u102 u103 u104 u105 u106 u107 u108 u109 u110 u111 u112 u113 u114 u115 u116 u117 u118 u119 u120 u121 u122 u123 u124 u125 u126 u127 u128 u129 u130 u131 u132 u133 u134 u135 u136 u137 u138 u139 u140 u141 u142 u143 u144 u145 u146 u147 u148 u149 u150 u151 u152 u153 u154 u155 u156 u157 u158 u159 u160 u161 u162 u163 u164 u165 u166 u167 u168 u169 u170 u171 u172 u173 u174 u175 u176 u177 u178 u179 u180 u181 u182 u183 u184 u185 u186 u187 u188 u189 u190 u191 u192 u193 u194 u195 u196 u197 u198 u199 u200 u201 u202 u203 u204 u205 u206 u207 u208 u209 u210 u211 u212 u213 u214 u215 u216 u217 u218 u219 u220 u221 u222 u223 u224 u225 u226 u227 u228 u229 u230 u231 u232 u233 u234 u235 u236 u237 u238 u239 u240 u241 u242 u243 u244 u245 u246 u247 u248 u249 u250 u251 u252 u253 u254 u255 u256 u257 u258 u259 : Value) (K : Act → World → Prop) (Q0 : Exit → Act → World → Prop) (hlv : lv.length = 3) (hn : ds.length = n) (hn28 : n ≤ 28) (h32 : ∀ y ∈ ds, y.length = 32) (hh : hd.length = 32) (hrd : ∀ d : Nat, d < 3 → ∀ i : Nat, i ≤ n → M.readE (d : Int) ((6 + i : Nat) : Int) = 0 ∧ M.read (d : Int) ((6 + i : Nat) : Int) = wantB (lv.getD d false) hd ds i) (hd3 : d < 3) (hI : (i ≤ n + 1 ∧ KS W0 w b H M [(gl, Obj.cells (lv.map Value.bool).toArray 4 (0, 0))] [(A, ds)] [(Ah, hd)]))
    (hK : ∀ (v24 v25 v26 v161 v162 v163 v164 v165 v166 v167 v168 v169 v170 v171 v172 v173 v174 v175 v176 v177 v178 v179 v180 v181 v182 v183 v184 v185 v186 v187 v188 v189 v190 v191 v192 v193 v194 v195 : Value)  (V : World), ((i + 1) ≤ n + 1 ∧ KS W0 V b H M [(gl, Obj.cells (lv.map Value.bool).toArray 4 (0, 0))] [(A, ds)] [(Ah, hd)]) → n + 1 - (i + 1) < n + 1 - i → K ⟨List.toArray ((.int .i64 ((en : Nat) : Int)) :: (.int .i64 ((xn : Nat) : Int)) :: (.int .i64 ((n : Nat) : Int)) :: u3 :: u4 :: u5 :: u6 :: u7 :: u8 :: u9 :: u10 :: u11 :: (.bool false) :: (.pointer (some ⟨b, 0, none⟩)) :: u14 :: (.slice (some ⟨gl, 0, none⟩) 3 3) :: (.slice A n c) :: u17 :: u18 :: u19 :: u20 :: (.slice Ah 32 ch) :: (.int .i64 ((d : Nat) : Int)) :: (.int .i64 (((i + 1) : Nat) : Int)) :: v24 :: v25 :: v26 :: u27 :: u28 :: u29 :: u30 :: u31 :: u32 :: u33 :: u34 :: u35 :: u36 :: u37 :: u38 :: u39 :: u40 :: u41 :: u42 :: u43 :: u44 :: u45 :: u46 :: u47 :: u48 :: u49 :: u50 :: u51 :: u52 :: u53 :: u54 :: u55 :: u56 :: u57 :: u58 :: u59 :: u60 :: u61 :: u62 :: u63 :: u64 :: u65 :: u66 :: u67 :: u68 :: u69 :: u70 :: u71 :: u72 :: u73 :: u74 :: u75 :: u76 :: u77 :: u78 :: u79 :: u80 :: u81 :: u82 :: u83 :: u84 :: u85 :: u86 :: u87 :: u88 :: u89 :: u90 :: u91 :: u92 :: u93 :: u94 :: u95 :: u96 :: u97 :: u98 :: u99 :: u100 :: u101 :: u102 :: u103 :: u104 :: u105 :: u106 :: u107 :: u108 :: u109 :: u110 :: u111 :: u112 :: u113 :: u114 :: u115 :: u116 :: u117 :: u118 :: u119 :: u120 :: u121 :: u122 :: u123 :: u124 :: u125 :: u126 :: u127 :: u128 :: u129 :: u130 :: u131 :: u132 :: u133 :: u134 :: u135 :: u136 :: u137 :: u138 :: u139 :: u140 :: u141 :: u142 :: u143 :: u144 :: u145 :: u146 :: u147 :: u148 :: u149 :: u150 :: u151 :: u152 :: u153 :: u154 :: u155 :: u156 :: u157 :: u158 :: u159 :: u160 :: v161 :: v162 :: v163 :: v164 :: v165 :: v166 :: v167 :: v168 :: v169 :: v170 :: v171 :: v172 :: v173 :: v174 :: v175 :: v176 :: v177 :: v178 :: v179 :: v180 :: v181 :: v182 :: v183 :: v184 :: v185 :: v186 :: v187 :: v188 :: v189 :: v190 :: v191 :: v192 :: v193 :: v194 :: v195 :: u196 :: u197 :: u198 :: u199 :: u200 :: u201 :: u202 :: u203 :: u204 :: u205 :: u206 :: u207 :: u208 :: u209 :: u210 :: u211 :: u212 :: u213 :: u214 :: u215 :: u216 :: u217 :: u218 :: u219 :: u220 :: u221 :: u222 :: u223 :: u224 :: u225 :: u226 :: u227 :: u228 :: u229 :: u230 :: u231 :: u232 :: u233 :: u234 :: u235 :: u236 :: u237 :: u238 :: u239 :: u240 :: u241 :: u242 :: u243 :: u244 :: u245 :: u246 :: u247 :: u248 :: u249 :: u250 :: u251 :: u252 :: u253 :: u254 :: u255 :: u256 :: u257 :: u258 :: u259 :: []), []⟩ V)
    (hX : ∀ (v24 v25 v26 v161 v162 v163 v164 v165 v166 v167 v168 v169 v170 v171 v172 v173 v174 v175 v176 v177 v178 v179 v180 v181 v182 v183 v184 v185 v186 v187 v188 v189 v190 v191 v192 v193 v194 v195 : Value), (True) → Q0 (.exit 2) ⟨List.toArray ((.int .i64 ((en : Nat) : Int)) :: (.int .i64 ((xn : Nat) : Int)) :: (.int .i64 ((n : Nat) : Int)) :: u3 :: u4 :: u5 :: u6 :: u7 :: u8 :: u9 :: u10 :: u11 :: (.bool false) :: (.pointer (some ⟨b, 0, none⟩)) :: u14 :: (.slice (some ⟨gl, 0, none⟩) 3 3) :: (.slice A n c) :: u17 :: u18 :: u19 :: u20 :: (.slice Ah 32 ch) :: (.int .i64 ((d : Nat) : Int)) :: (.int .i64 ((i : Nat) : Int)) :: v24 :: v25 :: v26 :: u27 :: u28 :: u29 :: u30 :: u31 :: u32 :: u33 :: u34 :: u35 :: u36 :: u37 :: u38 :: u39 :: u40 :: u41 :: u42 :: u43 :: u44 :: u45 :: u46 :: u47 :: u48 :: u49 :: u50 :: u51 :: u52 :: u53 :: u54 :: u55 :: u56 :: u57 :: u58 :: u59 :: u60 :: u61 :: u62 :: u63 :: u64 :: u65 :: u66 :: u67 :: u68 :: u69 :: u70 :: u71 :: u72 :: u73 :: u74 :: u75 :: u76 :: u77 :: u78 :: u79 :: u80 :: u81 :: u82 :: u83 :: u84 :: u85 :: u86 :: u87 :: u88 :: u89 :: u90 :: u91 :: u92 :: u93 :: u94 :: u95 :: u96 :: u97 :: u98 :: u99 :: u100 :: u101 :: u102 :: u103 :: u104 :: u105 :: u106 :: u107 :: u108 :: u109 :: u110 :: u111 :: u112 :: u113 :: u114 :: u115 :: u116 :: u117 :: u118 :: u119 :: u120 :: u121 :: u122 :: u123 :: u124 :: u125 :: u126 :: u127 :: u128 :: u129 :: u130 :: u131 :: u132 :: u133 :: u134 :: u135 :: u136 :: u137 :: u138 :: u139 :: u140 :: u141 :: u142 :: u143 :: u144 :: u145 :: u146 :: u147 :: u148 :: u149 :: u150 :: u151 :: u152 :: u153 :: u154 :: u155 :: u156 :: u157 :: u158 :: u159 :: u160 :: v161 :: v162 :: v163 :: v164 :: v165 :: v166 :: v167 :: v168 :: v169 :: v170 :: v171 :: v172 :: v173 :: v174 :: v175 :: v176 :: v177 :: v178 :: v179 :: v180 :: v181 :: v182 :: v183 :: v184 :: v185 :: v186 :: v187 :: v188 :: v189 :: v190 :: v191 :: v192 :: v193 :: v194 :: v195 :: u196 :: u197 :: u198 :: u199 :: u200 :: u201 :: u202 :: u203 :: u204 :: u205 :: u206 :: u207 :: u208 :: u209 :: u210 :: u211 :: u212 :: u213 :: u214 :: u215 :: u216 :: u217 :: u218 :: u219 :: u220 :: u221 :: u222 :: u223 :: u224 :: u225 :: u226 :: u227 :: u228 :: u229 :: u230 :: u231 :: u232 :: u233 :: u234 :: u235 :: u236 :: u237 :: u238 :: u239 :: u240 :: u241 :: u242 :: u243 :: u244 :: u245 :: u246 :: u247 :: u248 :: u249 :: u250 :: u251 :: u252 :: u253 :: u254 :: u255 :: u256 :: u257 :: u258 :: u259 :: []), []⟩ w) :
    Code.wp Tryd.prog (sub [1, 1, 1, 1, 1, 1, 1, 1, 1, 1, 1, 1, 1, 1, 0, 1, 0, 0, 1, 0, 0, 1, 0, 0] codeBB) (Exit.then K Q0) ⟨List.toArray ((.int .i64 ((en : Nat) : Int)) :: (.int .i64 ((xn : Nat) : Int)) :: (.int .i64 ((n : Nat) : Int)) :: u3 :: u4 :: u5 :: u6 :: u7 :: u8 :: u9 :: u10 :: u11 :: (.bool false) :: (.pointer (some ⟨b, 0, none⟩)) :: u14 :: (.slice (some ⟨gl, 0, none⟩) 3 3) :: (.slice A n c) :: u17 :: u18 :: u19 :: u20 :: (.slice Ah 32 ch) :: (.int .i64 ((d : Nat) : Int)) :: (.int .i64 ((i : Nat) : Int)) :: u24 :: u25 :: u26 :: u27 :: u28 :: u29 :: u30 :: u31 :: u32 :: u33 :: u34 :: u35 :: u36 :: u37 :: u38 :: u39 :: u40 :: u41 :: u42 :: u43 :: u44 :: u45 :: u46 :: u47 :: u48 :: u49 :: u50 :: u51 :: u52 :: u53 :: u54 :: u55 :: u56 :: u57 :: u58 :: u59 :: u60 :: u61 :: u62 :: u63 :: u64 :: u65 :: u66 :: u67 :: u68 :: u69 :: u70 :: u71 :: u72 :: u73 :: u74 :: u75 :: u76 :: u77 :: u78 :: u79 :: u80 :: u81 :: u82 :: u83 :: u84 :: u85 :: u86 :: u87 :: u88 :: u89 :: u90 :: u91 :: u92 :: u93 :: u94 :: u95 :: u96 :: u97 :: u98 :: u99 :: u100 :: u101 :: u102 :: u103 :: u104 :: u105 :: u106 :: u107 :: u108 :: u109 :: u110 :: u111 :: u112 :: u113 :: u114 :: u115 :: u116 :: u117 :: u118 :: u119 :: u120 :: u121 :: u122 :: u123 :: u124 :: u125 :: u126 :: u127 :: u128 :: u129 :: u130 :: u131 :: u132 :: u133 :: u134 :: u135 :: u136 :: u137 :: u138 :: u139 :: u140 :: u141 :: u142 :: u143 :: u144 :: u145 :: u146 :: u147 :: u148 :: u149 :: u150 :: u151 :: u152 :: u153 :: u154 :: u155 :: u156 :: u157 :: u158 :: u159 :: u160 :: u161 :: u162 :: u163 :: u164 :: u165 :: u166 :: u167 :: u168 :: u169 :: u170 :: u171 :: u172 :: u173 :: u174 :: u175 :: u176 :: u177 :: u178 :: u179 :: u180 :: u181 :: u182 :: u183 :: u184 :: u185 :: u186 :: u187 :: u188 :: u189 :: u190 :: u191 :: u192 :: u193 :: u194 :: u195 :: u196 :: u197 :: u198 :: u199 :: u200 :: u201 :: u202 :: u203 :: u204 :: u205 :: u206 :: u207 :: u208 :: u209 :: u210 :: u211 :: u212 :: u213 :: u214 :: u215 :: u216 :: u217 :: u218 :: u219 :: u220 :: u221 :: u222 :: u223 :: u224 :: u225 :: u226 :: u227 :: u228 :: u229 :: u230 :: u231 :: u232 :: u233 :: u234 :: u235 :: u236 :: u237 :: u238 :: u239 :: u240 :: u241 :: u242 :: u243 :: u244 :: u245 :: u246 :: u247 :: u248 :: u249 :: u250 :: u251 :: u252 :: u253 :: u254 :: u255 :: u256 :: u257 :: u258 :: u259 :: []), []⟩ w := by
  have HK := Lib.hid hK
  have HX := Lib.hid hX
  clear hK hX
  conv => arg 2; whnf
  obtain ⟨hi, hk⟩ := hI
  by_cases hlt : i ≤ n
  · have i0 : (0 : Int) ≤ (i : Int) := by omega
    have i1 : (i : Int) ≤ (n : Int) := by omega
    have d0 : (0 : Int) ≤ (d : Int) := by omega
    have d1 : (d : Int) < 3 := by omega
    have w6 : 6 + (i : Int) = ((6 + i : Nat) : Int) := by omega
    obtain ⟨r1, r2⟩ := hrd d hd3 i hlt
    have hcl : w.cell? ⟨gl, d, none⟩ = some (.bool (lv.getD d false)) := by
      rw [cell_of_row w gl d _ _ _ (hk.kx.kp _ (List.mem_cons_self ..)).1, List.getElem?_toArray, List.getElem?_map, List.getElem?_eq_getElem (by omega)]
      simp [List.getD_eq_getElem?_getD, hlv, hd3]
    have HKs := Lib.hid hk
    cases hb : lv.getD d false with
    | true =>
      rw [hb] at hcl r2
      have CR := bp_read W0 w b H M hk.bp (d : Int) (6 + (i : Int)) ⟨by omega, by omega⟩ ⟨by omega, by omega⟩
      rw [w6, r1, r2, ← w6] at CR
      replace CR := Lib.hid CR
      clear r1 r2 w6 hb
      by_cases hz : i = 0
      · have i2 : ¬ (0 : Int) < (i : Int) := by omega
        have hwv : wantB true hd ds i = hd := by unfold wantB; rw [if_neg (by decide), if_pos (by omega)]
        rw [hwv] at CR
        have W32 := Lib.hid hh
        have HW := Lib.hid (hk.sl (A := Ah) (bs := hd) (List.mem_cons_self ..))
        have HB0 := Lib.hid (Below.refl w.heap.size w)
        clear hk hrd h32 hh hlv hn HX hwv hz
        go_wp2_with fail
        (with_reducible refine CR.out.mono ?_); rintro e w1 ⟨v, rfl, ho, hb1⟩
        obtain ⟨g1, cp1, rfl, _, _, _, _, hr1⟩ := ho.pos (by rw [W32.out]; omega)
        rw [W32.out]
        have K1 := Lib.hid (HKs.out.below (HB0.out.trans (hb1.mono HB0.out.size)))
        have CS := Lib.hid (same_any (some ⟨g1, 0, none⟩) Ah 32 32 cp1 ch w1.heap.size hd hd w1 W32.out.symm W32.out.symm hr1 ((HW.out.below hb1 (Nat.le_refl _)).more hb1.size))
        replace CS := Lib.hid (show Calls Tryd.prog 20 #[.slice (some ⟨g1, 0, none⟩) 32 cp1, .slice Ah 32 ch] w1 fun e w' => e = .returned (.bool true) ∧ Below w1.heap.size w1 w' from by
          have h := CS.out
          unfold SamePost at h
          rw [show decide (hd = hd) = true from decide_eq_true rfl] at h
          refine h.mono ?_
          rintro e w' ⟨rfl, m, rfl⟩
          exact ⟨rfl, belowN _ _ m⟩)
        clear ho hr1 hb1 CR HW HKs
        go_wp2_with fail
        (with_reducible refine CS.out.mono ?_); rintro e w2 ⟨rfl, hb2⟩
        have K2 := Lib.hid (K1.out.below hb2)
        clear CS hb2 K1
        go_wp2_with fail
        exact HK.out _ _ _ _ _ _ _ _ _ _ _ _ _ _ _ _ _ _ _ _ _ _ _ _ _ _ _ _ _ _ _ _ _ _ _ _ _ _ _ ⟨by omega, K2.out⟩ (by omega)
      · have i2 : (0 : Int) < (i : Int) := by omega
        have i3 : (i : Int) - 1 = ((i - 1 : Nat) : Int) := by omega
        obtain ⟨gd, od, Ad, cd, hA, hcd, hrd1⟩ := (hk.rx (A, ds) (List.mem_cons_self ..)).at (k := i - 1) (by show i - 1 < ds.length; omega)
        dsimp only at hA hcd hrd1
        subst hA
        have hyl : (ds.getD (i - 1) []).length = 32 := h32 _ (by rw [List.getD_eq_getElem?_getD, List.getElem?_eq_getElem (by omega)]; exact List.getElem_mem _)
        rw [hyl] at hcd
        have i4 : (i : Int) - 1 < (n : Int) := by omega
        have i5 : (0 : Int) ≤ (i : Int) - 1 := by omega
        have i6 : ((i : Int) - 1).toNat = i - 1 := by omega
        have hwv : wantB true hd ds i = ds.getD (i - 1) [] := by unfold wantB; rw [if_neg (by decide), if_neg (by omega)]
        rw [hwv] at CR
        generalize ds.getD (i - 1) [] = y at CR hyl hrd1
        have W32 := Lib.hid hyl
        have HW := Lib.hid hrd1.rdb
        have HB0 := Lib.hid (Below.refl w.heap.size w)
        clear hyl hrd1
        clear hk hrd h32 hh hlv hn HX hwv hz
        go_wp2_with fail
        (with_reducible refine CR.out.mono ?_); rintro e w1 ⟨v, rfl, ho, hb1⟩
        obtain ⟨g1, cp1, rfl, _, _, _, _, hr1⟩ := ho.pos (by rw [W32.out]; omega)
        rw [W32.out]
        have K1 := Lib.hid (HKs.out.below (HB0.out.trans (hb1.mono HB0.out.size)))
        have CS := Lib.hid (same_any (some ⟨g1, 0, none⟩) Ad 32 32 cp1 cd w1.heap.size y y w1 W32.out.symm W32.out.symm hr1 ((HW.out.below hb1 (Nat.le_refl _)).more hb1.size))
        replace CS := Lib.hid (show Calls Tryd.prog 20 #[.slice (some ⟨g1, 0, none⟩) 32 cp1, .slice Ad 32 cd] w1 fun e w' => e = .returned (.bool true) ∧ Below w1.heap.size w1 w' from by
          have h := CS.out
          unfold SamePost at h
          rw [show decide (y = y) = true from decide_eq_true rfl] at h
          refine h.mono ?_
          rintro e w' ⟨rfl, m, rfl⟩
          exact ⟨rfl, belowN _ _ m⟩)
        clear ho hr1 hb1 CR HW HKs
        go_wp2_with fail
        (with_reducible refine CS.out.mono ?_); rintro e w2 ⟨rfl, hb2⟩
        have K2 := Lib.hid (K1.out.below hb2)
        clear CS hb2 K1
        go_wp2_with fail
        exact HK.out _ _ _ _ _ _ _ _ _ _ _ _ _ _ _ _ _ _ _ _ _ _ _ _ _ _ _ _ _ _ _ _ _ _ _ _ _ _ _ ⟨by omega, K2.out⟩ (by omega)
    | false =>
      rw [hb] at hcl r2
      by_cases hz : i = 0
      · have CR := fun V (hV : Below w.heap.size w V) => bp_read W0 V b H M (hk.bp.grow hV) (d : Int) (6 + (i : Int)) ⟨by omega, by omega⟩ ⟨by omega, by omega⟩
        rw [w6, r1, r2, ← w6] at CR
        replace CR := Lib.hid (CR _ (below1 w (.cells (zcells 32) 5)))
        clear r1 r2 w6 hb
        have i2 : ¬ (0 : Int) < (i : Int) := by omega
        have hwv : wantB false hd ds i = List.replicate 32 0 := if_pos rfl
        rw [hwv] at CR
        have W32 := Lib.hid (show (List.replicate 32 (0 : UInt8)).length = 32 from rfl)
        have hmk := makeS w
        have HW := Lib.hid (own_make 5 w 32 (by omega)).rdS.1
        have HB0 := Lib.hid (below1 w (.cells (zcells 32) 5))
        clear hk hrd h32 hh hlv hn HX hwv hz
        go_wp2_with fail
        (with_reducible refine CR.out.mono ?_); rintro e w1 ⟨v, rfl, ho, hb1⟩
        obtain ⟨g1, cp1, rfl, _, _, _, _, hr1⟩ := ho.pos (by rw [W32.out]; omega)
        rw [W32.out]
        have K1 := Lib.hid (HKs.out.below (HB0.out.trans (hb1.mono HB0.out.size)))
        have CS := Lib.hid (same_any (some ⟨g1, 0, none⟩) (some ⟨w.heap.size, 0, none⟩) 32 32 cp1 32 w1.heap.size (List.replicate 32 (0 : UInt8)) (List.replicate 32 (0 : UInt8)) w1 W32.out.symm W32.out.symm hr1 ((HW.out.below hb1 (Nat.le_refl _)).more hb1.size))
        replace CS := Lib.hid (show Calls Tryd.prog 20 #[.slice (some ⟨g1, 0, none⟩) 32 cp1, .slice (some ⟨w.heap.size, 0, none⟩) 32 32] w1 fun e w' => e = .returned (.bool true) ∧ Below w1.heap.size w1 w' from by
          have h := CS.out
          unfold SamePost at h
          rw [show decide ((List.replicate 32 (0 : UInt8)) = (List.replicate 32 (0 : UInt8))) = true from decide_eq_true rfl] at h
          refine h.mono ?_
          rintro e w' ⟨rfl, m, rfl⟩
          exact ⟨rfl, belowN _ _ m⟩)
        clear ho hr1 hb1 CR HW HKs
        go_wp2_with fail
        (with_reducible refine CS.out.mono ?_); rintro e w2 ⟨rfl, hb2⟩
        have K2 := Lib.hid (K1.out.below hb2)
        clear CS hb2 K1
        go_wp2_with fail
        exact HK.out _ _ _ _ _ _ _ _ _ _ _ _ _ _ _ _ _ _ _ _ _ _ _ _ _ _ _ _ _ _ _ _ _ _ _ _ _ _ _ ⟨by omega, K2.out⟩ (by omega)
      · have CR := fun V (hV : Below w.heap.size w V) => bp_read W0 V b H M (hk.bp.grow hV) (d : Int) (6 + (i : Int)) ⟨by omega, by omega⟩ ⟨by omega, by omega⟩
        rw [w6, r1, r2, ← w6] at CR
        replace CR := Lib.hid (CR _ (below1 w (.cells (zcells 32) 5)))
        clear r1 r2 w6 hb
        have i2 : (0 : Int) < (i : Int) := by omega
        have i3 : (i : Int) - 1 = ((i - 1 : Nat) : Int) := by omega
        obtain ⟨gd, od, Ad, cd, hA, hcd, hrd1⟩ := (hk.rx (A, ds) (List.mem_cons_self ..)).at (k := i - 1) (by show i - 1 < ds.length; omega)
        dsimp only at hA hcd hrd1
        subst hA
        have hyl : (ds.getD (i - 1) []).length = 32 := h32 _ (by rw [List.getD_eq_getElem?_getD, List.getElem?_eq_getElem (by omega)]; exact List.getElem_mem _)
        rw [hyl] at hcd
        have i4 : (i : Int) - 1 < (n : Int) := by omega
        have i5 : (0 : Int) ≤ (i : Int) - 1 := by omega
        have i6 : ((i : Int) - 1).toNat = i - 1 := by omega
        have hwv : wantB false hd ds i = List.replicate 32 0 := if_pos rfl
        rw [hwv] at CR
        have W32 := Lib.hid (show (List.replicate 32 (0 : UInt8)).length = 32 from rfl)
        have hmk := makeS w
        have HW := Lib.hid (own_make 5 w 32 (by omega)).rdS.1
        have HB0 := Lib.hid (below1 w (.cells (zcells 32) 5))
        clear hyl hrd1
        clear hk hrd h32 hh hlv hn HX hwv hz
        go_wp2_with fail
        (with_reducible refine CR.out.mono ?_); rintro e w1 ⟨v, rfl, ho, hb1⟩
        obtain ⟨g1, cp1, rfl, _, _, _, _, hr1⟩ := ho.pos (by rw [W32.out]; omega)
        rw [W32.out]
        have K1 := Lib.hid (HKs.out.below (HB0.out.trans (hb1.mono HB0.out.size)))
        have CS := Lib.hid (same_any (some ⟨g1, 0, none⟩) (some ⟨w.heap.size, 0, none⟩) 32 32 cp1 32 w1.heap.size (List.replicate 32 (0 : UInt8)) (List.replicate 32 (0 : UInt8)) w1 W32.out.symm W32.out.symm hr1 ((HW.out.below hb1 (Nat.le_refl _)).more hb1.size))
        replace CS := Lib.hid (show Calls Tryd.prog 20 #[.slice (some ⟨g1, 0, none⟩) 32 cp1, .slice (some ⟨w.heap.size, 0, none⟩) 32 32] w1 fun e w' => e = .returned (.bool true) ∧ Below w1.heap.size w1 w' from by
          have h := CS.out
          unfold SamePost at h
          rw [show decide ((List.replicate 32 (0 : UInt8)) = (List.replicate 32 (0 : UInt8))) = true from decide_eq_true rfl] at h
          refine h.mono ?_
          rintro e w' ⟨rfl, m, rfl⟩
          exact ⟨rfl, belowN _ _ m⟩)
        clear ho hr1 hb1 CR HW HKs
        go_wp2_with fail
        (with_reducible refine CS.out.mono ?_); rintro e w2 ⟨rfl, hb2⟩
        have K2 := Lib.hid (K1.out.below hb2)
        clear CS hb2 K1
        go_wp2_with fail
        exact HK.out _ _ _ _ _ _ _ _ _ _ _ _ _ _ _ _ _ _ _ _ _ _ _ _ _ _ _ _ _ _ _ _ _ _ _ _ _ _ _ ⟨by omega, K2.out⟩ (by omega)
  · have i1 : ¬ (i : Int) ≤ (n : Int) := by omega
    clear HK hk
    go_wp2_with fail
    exact HX.out _ _ _ _ _ _ _ _ _ _ _ _ _ _ _ _ _ _ _ _ _ _ _ _ _ _ _ _ _ _ _ _ _ _ _ _ _ _ trivial
set_option maxRecDepth 100000 in
set_option maxHeartbeats 3200000 in
theorem bbB {W0 : World} {A Ah : Option Addr} {en xn n c ch b gl d : Nat} {lv : List Bool} {hd : List UInt8} {ds : List (List UInt8)} {H : BH} {M : Bch}  {w : World} (u3 u4 u5 u6 u7 u8 u9 u10 u11 u14 u17 u18 u19 u20 u24 u25 u26 u27 u28 u29 u30 u31 u32 u33 u34 u35 u36 u37 u38 u39 u40 u41 u42 u43 u44 u45 u46 u47 u48 u49 u50 u51 u52 u53 u54 u55 u56 u57 u58 u59 u60 u61 u62 u63 u64 u65 u66 u67 u68 u69 u70 u71 u72 u73 u74 u75 u76 u77 u78 u79 u80 u81 u82 u83 u84 u85 u86 u87 u88 u89 u90 u91 u92 u93 u94 u95 u96 u97 u98 u99 u100 u101 u102 u103 u104 u105 u106 u107 u108 u109 u110 u111 u112 u113 u114 u115 u116 u117 u118 u119 u120 u121 u122 u123 u124 u125 u126 u127 u128 u129 u130 u131 u132 u133 u134 u135 u136 u137 u138 u139 u140 u141 u142 u143 u144 u145 u146 u147 u148 u149 u150 u151 u152 u153 u154 u155 u156 u157 u158 u159 u160 u161 u162 u163 u164 u165 u166 u167 u168 u169 u170 u171 u172 u173 u174 u175 u176 u177 u178 u179 u180 u181 u182 u183 u184 u185 u186 u187 u188 u189 u190 u191 u192 u193 u194 u195 u196 u197 u198 u199 u200 u201 u202 u203 u204 u205 u206 u207 u208 u209 u210 u211 u212 u213 u214 u215 u216 u217 u218 u219 u220 u221 u222 u223 u224 u225 u226 u227 u228 u229 u230 u231 u232 u233 u234 u235 u236 u237 u238 u239 u240 u241 u242 u243 u244 u245 u246 u247 u248 u249 u250 u251 u252 u253 u254 u255 u256 u257 u258 u259 : Value) (Q : Exit → Act → World → Prop) (hlv : lv.length = 3) (hn : ds.length = n) (hn28 : n ≤ 28) (h32 : ∀ y ∈ ds, y.length = 32) (hh : hd.length = 32) (hrd : ∀ d : Nat, d < 3 → ∀ i : Nat, i ≤ n → M.readE (d : Int) ((6 + i : Nat) : Int) = 0 ∧ M.read (d : Int) ((6 + i : Nat) : Int) = wantB (lv.getD d false) hd ds i) (hd3 : d < 3) (hI : (0 ≤ n + 1 ∧ KS W0 w b H M [(gl, Obj.cells (lv.map Value.bool).toArray 4 (0, 0))] [(A, ds)] [(Ah, hd)]))
    (hX : ∀ (v24 v25 v26 v161 v162 v163 v164 v165 v166 v167 v168 v169 v170 v171 v172 v173 v174 v175 v176 v177 v178 v179 v180 v181 v182 v183 v184 v185 v186 v187 v188 v189 v190 v191 v192 v193 v194 v195 : Value) (i : Nat) (V : World), (i ≤ n + 1 ∧ KS W0 V b H M [(gl, Obj.cells (lv.map Value.bool).toArray 4 (0, 0))] [(A, ds)] [(Ah, hd)]) → (True) → Q (.exit 2) ⟨List.toArray ((.int .i64 ((en : Nat) : Int)) :: (.int .i64 ((xn : Nat) : Int)) :: (.int .i64 ((n : Nat) : Int)) :: u3 :: u4 :: u5 :: u6 :: u7 :: u8 :: u9 :: u10 :: u11 :: (.bool false) :: (.pointer (some ⟨b, 0, none⟩)) :: u14 :: (.slice (some ⟨gl, 0, none⟩) 3 3) :: (.slice A n c) :: u17 :: u18 :: u19 :: u20 :: (.slice Ah 32 ch) :: (.int .i64 ((d : Nat) : Int)) :: (.int .i64 ((i : Nat) : Int)) :: v24 :: v25 :: v26 :: u27 :: u28 :: u29 :: u30 :: u31 :: u32 :: u33 :: u34 :: u35 :: u36 :: u37 :: u38 :: u39 :: u40 :: u41 :: u42 :: u43 :: u44 :: u45 :: u46 :: u47 :: u48 :: u49 :: u50 :: u51 :: u52 :: u53 :: u54 :: u55 :: u56 :: u57 :: u58 :: u59 :: u60 :: u61 :: u62 :: u63 :: u64 :: u65 :: u66 :: u67 :: u68 :: u69 :: u70 :: u71 :: u72 :: u73 :: u74 :: u75 :: u76 :: u77 :: u78 :: u79 :: u80 :: u81 :: u82 :: u83 :: u84 :: u85 :: u86 :: u87 :: u88 :: u89 :: u90 :: u91 :: u92 :: u93 :: u94 :: u95 :: u96 :: u97 :: u98 :: u99 :: u100 :: u101 :: u102 :: u103 :: u104 :: u105 :: u106 :: u107 :: u108 :: u109 :: u110 :: u111 :: u112 :: u113 :: u114 :: u115 :: u116 :: u117 :: u118 :: u119 :: u120 :: u121 :: u122 :: u123 :: u124 :: u125 :: u126 :: u127 :: u128 :: u129 :: u130 :: u131 :: u132 :: u133 :: u134 :: u135 :: u136 :: u137 :: u138 :: u139 :: u140 :: u141 :: u142 :: u143 :: u144 :: u145 :: u146 :: u147 :: u148 :: u149 :: u150 :: u151 :: u152 :: u153 :: u154 :: u155 :: u156 :: u157 :: u158 :: u159 :: u160 :: v161 :: v162 :: v163 :: v164 :: v165 :: v166 :: v167 :: v168 :: v169 :: v170 :: v171 :: v172 :: v173 :: v174 :: v175 :: v176 :: v177 :: v178 :: v179 :: v180 :: v181 :: v182 :: v183 :: v184 :: v185 :: v186 :: v187 :: v188 :: v189 :: v190 :: v191 :: v192 :: v193 :: v194 :: v195 :: u196 :: u197 :: u198 :: u199 :: u200 :: u201 :: u202 :: u203 :: u204 :: u205 :: u206 :: u207 :: u208 :: u209 :: u210 :: u211 :: u212 :: u213 :: u214 :: u215 :: u216 :: u217 :: u218 :: u219 :: u220 :: u221 :: u222 :: u223 :: u224 :: u225 :: u226 :: u227 :: u228 :: u229 :: u230 :: u231 :: u232 :: u233 :: u234 :: u235 :: u236 :: u237 :: u238 :: u239 :: u240 :: u241 :: u242 :: u243 :: u244 :: u245 :: u246 :: u247 :: u248 :: u249 :: u250 :: u251 :: u252 :: u253 :: u254 :: u255 :: u256 :: u257 :: u258 :: u259 :: []), []⟩ V) :
    Code.wp Tryd.prog (.loop (sub [1, 1, 1, 1, 1, 1, 1, 1, 1, 1, 1, 1, 1, 1, 0, 1, 0, 0, 1, 0, 0, 1, 0, 0] codeBB)) Q ⟨List.toArray ((.int .i64 ((en : Nat) : Int)) :: (.int .i64 ((xn : Nat) : Int)) :: (.int .i64 ((n : Nat) : Int)) :: u3 :: u4 :: u5 :: u6 :: u7 :: u8 :: u9 :: u10 :: u11 :: (.bool false) :: (.pointer (some ⟨b, 0, none⟩)) :: u14 :: (.slice (some ⟨gl, 0, none⟩) 3 3) :: (.slice A n c) :: u17 :: u18 :: u19 :: u20 :: (.slice Ah 32 ch) :: (.int .i64 ((d : Nat) : Int)) :: (.int .i64 ((0 : Nat) : Int)) :: u24 :: u25 :: u26 :: u27 :: u28 :: u29 :: u30 :: u31 :: u32 :: u33 :: u34 :: u35 :: u36 :: u37 :: u38 :: u39 :: u40 :: u41 :: u42 :: u43 :: u44 :: u45 :: u46 :: u47 :: u48 :: u49 :: u50 :: u51 :: u52 :: u53 :: u54 :: u55 :: u56 :: u57 :: u58 :: u59 :: u60 :: u61 :: u62 :: u63 :: u64 :: u65 :: u66 :: u67 :: u68 :: u69 :: u70 :: u71 :: u72 :: u73 :: u74 :: u75 :: u76 :: u77 :: u78 :: u79 :: u80 :: u81 :: u82 :: u83 :: u84 :: u85 :: u86 :: u87 :: u88 :: u89 :: u90 :: u91 :: u92 :: u93 :: u94 :: u95 :: u96 :: u97 :: u98 :: u99 :: u100 :: u101 :: u102 :: u103 :: u104 :: u105 :: u106 :: u107 :: u108 :: u109 :: u110 :: u111 :: u112 :: u113 :: u114 :: u115 :: u116 :: u117 :: u118 :: u119 :: u120 :: u121 :: u122 :: u123 :: u124 :: u125 :: u126 :: u127 :: u128 :: u129 :: u130 :: u131 :: u132 :: u133 :: u134 :: u135 :: u136 :: u137 :: u138 :: u139 :: u140 :: u141 :: u142 :: u143 :: u144 :: u145 :: u146 :: u147 :: u148 :: u149 :: u150 :: u151 :: u152 :: u153 :: u154 :: u155 :: u156 :: u157 :: u158 :: u159 :: u160 :: u161 :: u162 :: u163 :: u164 :: u165 :: u166 :: u167 :: u168 :: u169 :: u170 :: u171 :: u172 :: u173 :: u174 :: u175 :: u176 :: u177 :: u178 :: u179 :: u180 :: u181 :: u182 :: u183 :: u184 :: u185 :: u186 :: u187 :: u188 :: u189 :: u190 :: u191 :: u192 :: u193 :: u194 :: u195 :: u196 :: u197 :: u198 :: u199 :: u200 :: u201 :: u202 :: u203 :: u204 :: u205 :: u206 :: u207 :: u208 :: u209 :: u210 :: u211 :: u212 :: u213 :: u214 :: u215 :: u216 :: u217 :: u218 :: u219 :: u220 :: u221 :: u222 :: u223 :: u224 :: u225 :: u226 :: u227 :: u228 :: u229 :: u230 :: u231 :: u232 :: u233 :: u234 :: u235 :: u236 :: u237 :: u238 :: u239 :: u240 :: u241 :: u242 :: u243 :: u244 :: u245 :: u246 :: u247 :: u248 :: u249 :: u250 :: u251 :: u252 :: u253 :: u254 :: u255 :: u256 :: u257 :: u258 :: u259 :: []), []⟩ w := by
  refine wp_loop_ghost (fun gk a V => ∀ C : Prop, (∀ (u24 u25 u26 u161 u162 u163 u164 u165 u166 u167 u168 u169 u170 u171 u172 u173 u174 u175 u176 u177 u178 u179 u180 u181 u182 u183 u184 u185 u186 u187 u188 u189 u190 u191 u192 u193 u194 u195 : Value) (i : Nat), gk = n + 1 - i → (i ≤ n + 1 ∧ KS W0 V b H M [(gl, Obj.cells (lv.map Value.bool).toArray 4 (0, 0))] [(A, ds)] [(Ah, hd)]) → a = ⟨List.toArray ((.int .i64 ((en : Nat) : Int)) :: (.int .i64 ((xn : Nat) : Int)) :: (.int .i64 ((n : Nat) : Int)) :: u3 :: u4 :: u5 :: u6 :: u7 :: u8 :: u9 :: u10 :: u11 :: (.bool false) :: (.pointer (some ⟨b, 0, none⟩)) :: u14 :: (.slice (some ⟨gl, 0, none⟩) 3 3) :: (.slice A n c) :: u17 :: u18 :: u19 :: u20 :: (.slice Ah 32 ch) :: (.int .i64 ((d : Nat) : Int)) :: (.int .i64 ((i : Nat) : Int)) :: u24 :: u25 :: u26 :: u27 :: u28 :: u29 :: u30 :: u31 :: u32 :: u33 :: u34 :: u35 :: u36 :: u37 :: u38 :: u39 :: u40 :: u41 :: u42 :: u43 :: u44 :: u45 :: u46 :: u47 :: u48 :: u49 :: u50 :: u51 :: u52 :: u53 :: u54 :: u55 :: u56 :: u57 :: u58 :: u59 :: u60 :: u61 :: u62 :: u63 :: u64 :: u65 :: u66 :: u67 :: u68 :: u69 :: u70 :: u71 :: u72 :: u73 :: u74 :: u75 :: u76 :: u77 :: u78 :: u79 :: u80 :: u81 :: u82 :: u83 :: u84 :: u85 :: u86 :: u87 :: u88 :: u89 :: u90 :: u91 :: u92 :: u93 :: u94 :: u95 :: u96 :: u97 :: u98 :: u99 :: u100 :: u101 :: u102 :: u103 :: u104 :: u105 :: u106 :: u107 :: u108 :: u109 :: u110 :: u111 :: u112 :: u113 :: u114 :: u115 :: u116 :: u117 :: u118 :: u119 :: u120 :: u121 :: u122 :: u123 :: u124 :: u125 :: u126 :: u127 :: u128 :: u129 :: u130 :: u131 :: u132 :: u133 :: u134 :: u135 :: u136 :: u137 :: u138 :: u139 :: u140 :: u141 :: u142 :: u143 :: u144 :: u145 :: u146 :: u147 :: u148 :: u149 :: u150 :: u151 :: u152 :: u153 :: u154 :: u155 :: u156 :: u157 :: u158 :: u159 :: u160 :: u161 :: u162 :: u163 :: u164 :: u165 :: u166 :: u167 :: u168 :: u169 :: u170 :: u171 :: u172 :: u173 :: u174 :: u175 :: u176 :: u177 :: u178 :: u179 :: u180 :: u181 :: u182 :: u183 :: u184 :: u185 :: u186 :: u187 :: u188 :: u189 :: u190 :: u191 :: u192 :: u193 :: u194 :: u195 :: u196 :: u197 :: u198 :: u199 :: u200 :: u201 :: u202 :: u203 :: u204 :: u205 :: u206 :: u207 :: u208 :: u209 :: u210 :: u211 :: u212 :: u213 :: u214 :: u215 :: u216 :: u217 :: u218 :: u219 :: u220 :: u221 :: u222 :: u223 :: u224 :: u225 :: u226 :: u227 :: u228 :: u229 :: u230 :: u231 :: u232 :: u233 :: u234 :: u235 :: u236 :: u237 :: u238 :: u239 :: u240 :: u241 :: u242 :: u243 :: u244 :: u245 :: u246 :: u247 :: u248 :: u249 :: u250 :: u251 :: u252 :: u253 :: u254 :: u255 :: u256 :: u257 :: u258 :: u259 :: []), []⟩ → C) → C) (n + 1 - 0) ?_ ?_
  · intro C hC
    exact hC _ _ _ _ _ _ _ _ _ _ _ _ _ _ _ _ _ _ _ _ _ _ _ _ _ _ _ _ _ _ _ _ _ _ _ _ _ _ (0) rfl hI rfl
  · intro gk a V hI'
    refine hI' _ ?_
    intro u24 u25 u26 u161 u162 u163 u164 u165 u166 u167 u168 u169 u170 u171 u172 u173 u174 u175 u176 u177 u178 u179 u180 u181 u182 u183 u184 u185 u186 u187 u188 u189 u190 u191 u192 u193 u194 u195 i hk hinv ha
    subst ha
    subst hk
    refine bbBb _ _ _ _ _ _ _ _ _ _ _ _ _ _ _ _ _ _ _ _ _ _ _ _ _ _ _ _ _ _ _ _ _ _ _ _ _ _ _ _ _ _ _ _ _ _ _ _ _ _ _ _ _ _ _ _ _ _ _ _ _ _ _ _ _ _ _ _ _ _ _ _ _ _ _ _ _ _ _ _ _ _ _ _ _ _ _ _ _ _ _ _ _ _ _ _ _ _ _ _ _ _ _ _ _ _ _ _ _ _ _ _ _ _ _ _ _ _ _ _ _ _ _ _ _ _ _ _ _ _ _ _ _ _ _ _ _ _ _ _ _ _ _ _ _ _ _ _ _ _ _ _ _ _ _ _ _ _ _ _ _ _ _ _ _ _ _ _ _ _ _ _ _ _ _ _ _ _ _ _ _ _ _ _ _ _ _ _ _ _ _ _ _ _ _ _ _ _ _ _ _ _ _ _ _ _ _ _ _ _ _ _ _ _ _ _ _ _ _ _ _ _ _ _ _ _ _ _ _ _ _ _ _ _ _ _ _ _ _ _ _ _ _ _ _ _ _ _ _ _ _ _ hlv hn hn28 h32 hh hrd hd3 hinv (fun v24 v25 v26 v161 v162 v163 v164 v165 v166 v167 v168 v169 v170 v171 v172 v173 v174 v175 v176 v177 v178 v179 v180 v181 v182 v183 v184 v185 v186 v187 v188 v189 v190 v191 v192 v193 v194 v195  V2 h2 hm => ?_) (fun v24 v25 v26 v161 v162 v163 v164 v165 v166 v167 v168 v169 v170 v171 v172 v173 v174 v175 v176 v177 v178 v179 v180 v181 v182 v183 v184 v185 v186 v187 v188 v189 v190 v191 v192 v193 v194 v195 hx => hX v24 v25 v26 v161 v162 v163 v164 v165 v166 v167 v168 v169 v170 v171 v172 v173 v174 v175 v176 v177 v178 v179 v180 v181 v182 v183 v184 v185 v186 v187 v188 v189 v190 v191 v192 v193 v194 v195 i V hinv hx)
    refine ⟨_, hm, fun C hC => ?_⟩
    exact hC v24 v25 v26 v161 v162 v163 v164 v165 v166 v167 v168 v169 v170 v171 v172 v173 v174 v175 v176 v177 v178 v179 v180 v181 v182 v183 v184 v185 v186 v187 v188 v189 v190 v191 v192 v193 v194 v195 ((i + 1)) rfl h2 rfl
set_option maxRecDepth 100000 in
set_option maxHeartbeats 3200000 in
theorem bbAb {W0 : World} {A Ah : Option Addr} {en xn n c ch b gl : Nat} {lv : List Bool} {hd : List UInt8} {ds : List (List UInt8)} {H : BH} {M : Bch} {d : Nat} {w : World} (u3 u4 u5 u6 u7 u8 u9 u10 u11 u14 u17 u18 u19 u20 u23 u24 u25 u26 u27 u28 u29 u30 u31 u32 u33 u34 u35 u36 u37 u38 u39 u40 u41 u42 u43 u44 u45 u46 u47 u48 u49 u50 u51 u52 u53 u54 u55 u56 u57 u58 u59 u60 u61 u62 u63 u64 u65 u66 u67 u68 u69 u70 u71 u72 u73 u74 u75 u76 u77 u78 u79 u80 u81 u82 u83 u84 u85 u86 u87 u88 u89 u90 u91 u92 u93 u94 u95 u96 u97 u98 u99 u100 u101 u102 u103 u104 u105 u106 u107 u108 u109 u110 u111 u112 u113 u114 u115 u116 u117 u118 u119 u120 u121 u122 u123 u124 u125 u126 u127 u128 u129 u130 u131 u132 u133 u134 u135 u136 u137 u138 u139 u140 u141 u142 u143 u144 u145 u146 u147 u148 u149 u150 u151 u152 u153 u154 u155 u156 u157 u158 u159 u160 u161 u162 u163 u164 u165 u166 u167 u168 u169 u170 u171 u172 u173 u174 u175 u176 u177 u178 u179 u180 u181 u182 u183 u184 u185 u186 u187 u188 u189 u190 u191 u192 u193 u194 u195 u196 u197 u198 u199 u200 u201 u202 u203 u204 u205 u206 u207 u208 u209 u210 u211 u212 u213 u214 u215 u216 u217 u218 u219 u220 u221 u222 u223 u224 u225 u226 u227 u228 u229 u230 u231 u232 u233 u234 u235 u236 u237 u238 u239 u240 u241 u242 u243 u244 u245 u246 u247 u248 u249 u250 u251 u252 u253 u254 u255 u256 u257 u258 u259 : Value) (K : Act → World → Prop) (Q0 : Exit → Act → World → Prop) (hlv : lv.length = 3) (hn : ds.length = n) (hn28 : n ≤ 28) (h32 : ∀ y ∈ ds, y.length = 32) (hh : hd.length = 32) (hrd : ∀ d : Nat, d < 3 → ∀ i : Nat, i ≤ n → M.readE (d : Int) ((6 + i : Nat) : Int) = 0 ∧ M.read (d : Int) ((6 + i : Nat) : Int) = wantB (lv.getD d false) hd ds i) (hI : (d ≤ 3 ∧ KS W0 w b H M [(gl, Obj.cells (lv.map Value.bool).toArray 4 (0, 0))] [(A, ds)] [(Ah, hd)]))
    (hK : ∀ (v23 v24 v25 v26 v157 v158 v159 v160 v161 v162 v163 v164 v165 v166 v167 v168 v169 v170 v171 v172 v173 v174 v175 v176 v177 v178 v179 v180 v181 v182 v183 v184 v185 v186 v187 v188 v189 v190 v191 v192 v193 v194 v195 : Value)  (V : World), ((d + 1) ≤ 3 ∧ KS W0 V b H M [(gl, Obj.cells (lv.map Value.bool).toArray 4 (0, 0))] [(A, ds)] [(Ah, hd)]) → 3 - (d + 1) < 3 - d → K ⟨List.toArray ((.int .i64 ((en : Nat) : Int)) :: (.int .i64 ((xn : Nat) : Int)) :: (.int .i64 ((n : Nat) : Int)) :: u3 :: u4 :: u5 :: u6 :: u7 :: u8 :: u9 :: u10 :: u11 :: (.bool false) :: (.pointer (some ⟨b, 0, none⟩)) :: u14 :: (.slice (some ⟨gl, 0, none⟩) 3 3) :: (.slice A n c) :: u17 :: u18 :: u19 :: u20 :: (.slice Ah 32 ch) :: (.int .i64 (((d + 1) : Nat) : Int)) :: v23 :: v24 :: v25 :: v26 :: u27 :: u28 :: u29 :: u30 :: u31 :: u32 :: u33 :: u34 :: u35 :: u36 :: u37 :: u38 :: u39 :: u40 :: u41 :: u42 :: u43 :: u44 :: u45 :: u46 :: u47 :: u48 :: u49 :: u50 :: u51 :: u52 :: u53 :: u54 :: u55 :: u56 :: u57 :: u58 :: u59 :: u60 :: u61 :: u62 :: u63 :: u64 :: u65 :: u66 :: u67 :: u68 :: u69 :: u70 :: u71 :: u72 :: u73 :: u74 :: u75 :: u76 :: u77 :: u78 :: u79 :: u80 :: u81 :: u82 :: u83 :: u84 :: u85 :: u86 :: u87 :: u88 :: u89 :: u90 :: u91 :: u92 :: u93 :: u94 :: u95 :: u96 :: u97 :: u98 :: u99 :: u100 :: u101 :: u102 :: u103 :: u104 :: u105 :: u106 :: u107 :: u108 :: u109 :: u110 :: u111 :: u112 :: u113 :: u114 :: u115 :: u116 :: u117 :: u118 :: u119 :: u120 :: u121 :: u122 :: u123 :: u124 :: u125 :: u126 :: u127 :: u128 :: u129 :: u130 :: u131 :: u132 :: u133 :: u134 :: u135 :: u136 :: u137 :: u138 :: u139 :: u140 :: u141 :: u142 :: u143 :: u144 :: u145 :: u146 :: u147 :: u148 :: u149 :: u150 :: u151 :: u152 :: u153 :: u154 :: u155 :: u156 :: v157 :: v158 :: v159 :: v160 :: v161 :: v162 :: v163 :: v164 :: v165 :: v166 :: v167 :: v168 :: v169 :: v170 :: v171 :: v172 :: v173 :: v174 :: v175 :: v176 :: v177 :: v178 :: v179 :: v180 :: v181 :: v182 :: v183 :: v184 :: v185 :: v186 :: v187 :: v188 :: v189 :: v190 :: v191 :: v192 :: v193 :: v194 :: v195 :: u196 :: u197 :: u198 :: u199 :: u200 :: u201 :: u202 :: u203 :: u204 :: u205 :: u206 :: u207 :: u208 :: u209 :: u210 :: u211 :: u212 :: u213 :: u214 :: u215 :: u216 :: u217 :: u218 :: u219 :: u220 :: u221 :: u222 :: u223 :: u224 :: u225 :: u226 :: u227 :: u228 :: u229 :: u230 :: u231 :: u232 :: u233 :: u234 :: u235 :: u236 :: u237 :: u238 :: u239 :: u240 :: u241 :: u242 :: u243 :: u244 :: u245 :: u246 :: u247 :: u248 :: u249 :: u250 :: u251 :: u252 :: u253 :: u254 :: u255 :: u256 :: u257 :: u258 :: u259 :: []), []⟩ V)
    (hX : ∀ (v23 v24 v25 v26 v157 v158 v159 v160 v161 v162 v163 v164 v165 v166 v167 v168 v169 v170 v171 v172 v173 v174 v175 v176 v177 v178 v179 v180 v181 v182 v183 v184 v185 v186 v187 v188 v189 v190 v191 v192 v193 v194 v195 : Value), (True) → Q0 (.exit 0) ⟨List.toArray ((.int .i64 ((en : Nat) : Int)) :: (.int .i64 ((xn : Nat) : Int)) :: (.int .i64 ((n : Nat) : Int)) :: u3 :: u4 :: u5 :: u6 :: u7 :: u8 :: u9 :: u10 :: u11 :: (.bool false) :: (.pointer (some ⟨b, 0, none⟩)) :: u14 :: (.slice (some ⟨gl, 0, none⟩) 3 3) :: (.slice A n c) :: u17 :: u18 :: u19 :: u20 :: (.slice Ah 32 ch) :: (.int .i64 ((d : Nat) : Int)) :: v23 :: v24 :: v25 :: v26 :: u27 :: u28 :: u29 :: u30 :: u31 :: u32 :: u33 :: u34 :: u35 :: u36 :: u37 :: u38 :: u39 :: u40 :: u41 :: u42 :: u43 :: u44 :: u45 :: u46 :: u47 :: u48 :: u49 :: u50 :: u51 :: u52 :: u53 :: u54 :: u55 :: u56 :: u57 :: u58 :: u59 :: u60 :: u61 :: u62 :: u63 :: u64 :: u65 :: u66 :: u67 :: u68 :: u69 :: u70 :: u71 :: u72 :: u73 :: u74 :: u75 :: u76 :: u77 :: u78 :: u79 :: u80 :: u81 :: u82 :: u83 :: u84 :: u85 :: u86 :: u87 :: u88 :: u89 :: u90 :: u91 :: u92 :: u93 :: u94 :: u95 :: u96 :: u97 :: u98 :: u99 :: u100 :: u101 :: u102 :: u103 :: u104 :: u105 :: u106 :: u107 :: u108 :: u109 :: u110 :: u111 :: u112 :: u113 :: u114 :: u115 :: u116 :: u117 :: u118 :: u119 :: u120 :: u121 :: u122 :: u123 :: u124 :: u125 :: u126 :: u127 :: u128 :: u129 :: u130 :: u131 :: u132 :: u133 :: u134 :: u135 :: u136 :: u137 :: u138 :: u139 :: u140 :: u141 :: u142 :: u143 :: u144 :: u145 :: u146 :: u147 :: u148 :: u149 :: u150 :: u151 :: u152 :: u153 :: u154 :: u155 :: u156 :: v157 :: v158 :: v159 :: v160 :: v161 :: v162 :: v163 :: v164 :: v165 :: v166 :: v167 :: v168 :: v169 :: v170 :: v171 :: v172 :: v173 :: v174 :: v175 :: v176 :: v177 :: v178 :: v179 :: v180 :: v181 :: v182 :: v183 :: v184 :: v185 :: v186 :: v187 :: v188 :: v189 :: v190 :: v191 :: v192 :: v193 :: v194 :: v195 :: u196 :: u197 :: u198 :: u199 :: u200 :: u201 :: u202 :: u203 :: u204 :: u205 :: u206 :: u207 :: u208 :: u209 :: u210 :: u211 :: u212 :: u213 :: u214 :: u215 :: u216 :: u217 :: u218 :: u219 :: u220 :: u221 :: u222 :: u223 :: u224 :: u225 :: u226 :: u227 :: u228 :: u229 :: u230 :: u231 :: u232 :: u233 :: u234 :: u235 :: u236 :: u237 :: u238 :: u239 :: u240 :: u241 :: u242 :: u243 :: u244 :: u245 :: u246 :: u247 :: u248 :: u249 :: u250 :: u251 :: u252 :: u253 :: u254 :: u255 :: u256 :: u257 :: u258 :: u259 :: []), []⟩ w) :
    Code.wp Tryd.prog (sub [1, 1, 1, 1, 1, 1, 1, 1, 1, 1, 1, 1, 1, 1, 0, 1, 0, 0] codeBB) (Exit.then K Q0) ⟨List.toArray ((.int .i64 ((en : Nat) : Int)) :: (.int .i64 ((xn : Nat) : Int)) :: (.int .i64 ((n : Nat) : Int)) :: u3 :: u4 :: u5 :: u6 :: u7 :: u8 :: u9 :: u10 :: u11 :: (.bool false) :: (.pointer (some ⟨b, 0, none⟩)) :: u14 :: (.slice (some ⟨gl, 0, none⟩) 3 3) :: (.slice A n c) :: u17 :: u18 :: u19 :: u20 :: (.slice Ah 32 ch) :: (.int .i64 ((d : Nat) : Int)) :: u23 :: u24 :: u25 :: u26 :: u27 :: u28 :: u29 :: u30 :: u31 :: u32 :: u33 :: u34 :: u35 :: u36 :: u37 :: u38 :: u39 :: u40 :: u41 :: u42 :: u43 :: u44 :: u45 :: u46 :: u47 :: u48 :: u49 :: u50 :: u51 :: u52 :: u53 :: u54 :: u55 :: u56 :: u57 :: u58 :: u59 :: u60 :: u61 :: u62 :: u63 :: u64 :: u65 :: u66 :: u67 :: u68 :: u69 :: u70 :: u71 :: u72 :: u73 :: u74 :: u75 :: u76 :: u77 :: u78 :: u79 :: u80 :: u81 :: u82 :: u83 :: u84 :: u85 :: u86 :: u87 :: u88 :: u89 :: u90 :: u91 :: u92 :: u93 :: u94 :: u95 :: u96 :: u97 :: u98 :: u99 :: u100 :: u101 :: u102 :: u103 :: u104 :: u105 :: u106 :: u107 :: u108 :: u109 :: u110 :: u111 :: u112 :: u113 :: u114 :: u115 :: u116 :: u117 :: u118 :: u119 :: u120 :: u121 :: u122 :: u123 :: u124 :: u125 :: u126 :: u127 :: u128 :: u129 :: u130 :: u131 :: u132 :: u133 :: u134 :: u135 :: u136 :: u137 :: u138 :: u139 :: u140 :: u141 :: u142 :: u143 :: u144 :: u145 :: u146 :: u147 :: u148 :: u149 :: u150 :: u151 :: u152 :: u153 :: u154 :: u155 :: u156 :: u157 :: u158 :: u159 :: u160 :: u161 :: u162 :: u163 :: u164 :: u165 :: u166 :: u167 :: u168 :: u169 :: u170 :: u171 :: u172 :: u173 :: u174 :: u175 :: u176 :: u177 :: u178 :: u179 :: u180 :: u181 :: u182 :: u183 :: u184 :: u185 :: u186 :: u187 :: u188 :: u189 :: u190 :: u191 :: u192 :: u193 :: u194 :: u195 :: u196 :: u197 :: u198 :: u199 :: u200 :: u201 :: u202 :: u203 :: u204 :: u205 :: u206 :: u207 :: u208 :: u209 :: u210 :: u211 :: u212 :: u213 :: u214 :: u215 :: u216 :: u217 :: u218 :: u219 :: u220 :: u221 :: u222 :: u223 :: u224 :: u225 :: u226 :: u227 :: u228 :: u229 :: u230 :: u231 :: u232 :: u233 :: u234 :: u235 :: u236 :: u237 :: u238 :: u239 :: u240 :: u241 :: u242 :: u243 :: u244 :: u245 :: u246 :: u247 :: u248 :: u249 :: u250 :: u251 :: u252 :: u253 :: u254 :: u255 :: u256 :: u257 :: u258 :: u259 :: []), []⟩ w := by
  have HK := Lib.hid hK
  have HX := Lib.hid hX
  clear hK hX
  conv => arg 2; whnf
  obtain ⟨hd, hk⟩ := hI
  by_cases hlt : d < 3
  · have d0 : (0 : Int) ≤ (d : Int) := by omega
    have d1 : (d : Int) < 3 := by omega
    have HKs := Lib.hid hk
    clear hk HX
    go_upto_block 2 with fail
    refine wp_block ?_
    refine bbB _ _ _ _ _ _ _ _ _ _ _ _ _ _ _ _ _ _ _ _ _ _ _ _ _ _ _ _ _ _ _ _ _ _ _ _ _ _ _ _ _ _ _ _ _ _ _ _ _ _ _ _ _ _ _ _ _ _ _ _ _ _ _ _ _ _ _ _ _ _ _ _ _ _ _ _ _ _ _ _ _ _ _ _ _ _ _ _ _ _ _ _ _ _ _ _ _ _ _ _ _ _ _ _ _ _ _ _ _ _ _ _ _ _ _ _ _ _ _ _ _ _ _ _ _ _ _ _ _ _ _ _ _ _ _ _ _ _ _ _ _ _ _ _ _ _ _ _ _ _ _ _ _ _ _ _ _ _ _ _ _ _ _ _ _ _ _ _ _ _ _ _ _ _ _ _ _ _ _ _ _ _ _ _ _ _ _ _ _ _ _ _ _ _ _ _ _ _ _ _ _ _ _ _ _ _ _ _ _ _ _ _ _ _ _ _ _ _ _ _ _ _ _ _ _ _ _ _ _ _ _ _ _ _ _ _ _ _ _ _ _ _ _ _ _ _ _ _ _ _ _ hlv hn hn28 h32 hh hrd hlt ⟨Nat.zero_le _, HKs.out⟩ (fun v24 v25 v26 v161 v162 v163 v164 v165 v166 v167 v168 v169 v170 v171 v172 v173 v174 v175 v176 v177 v178 v179 v180 v181 v182 v183 v184 v185 v186 v187 v188 v189 v190 v191 v192 v193 v194 v195 i V2 hI2 _ => ?_)
    have K2 := Lib.hid hI2.2
    clear hI2 HKs
    go_wp2_with fail
    exact HK.out _ _ _ _ _ _ _ _ _ _ _ _ _ _ _ _ _ _ _ _ _ _ _ _ _ _ _ _ _ _ _ _ _ _ _ _ _ _ _ _ _ _ _ _ ⟨by omega, K2.out⟩ (by omega)
  · have d1 : ¬ (d : Int) < 3 := by omega
    clear HK hk
    go_wp2_with fail
    exact HX.out _ _ _ _ _ _ _ _ _ _ _ _ _ _ _ _ _ _ _ _ _ _ _ _ _ _ _ _ _ _ _ _ _ _ _ _ _ _ _ _ _ _ _ trivial
set_option maxRecDepth 100000 in
set_option maxHeartbeats 3200000 in
theorem bbA {W0 : World} {A Ah : Option Addr} {en xn n c ch b gl : Nat} {lv : List Bool} {hd : List UInt8} {ds : List (List UInt8)} {H : BH} {M : Bch}  {w : World} (u3 u4 u5 u6 u7 u8 u9 u10 u11 u14 u17 u18 u19 u20 u23 u24 u25 u26 u27 u28 u29 u30 u31 u32 u33 u34 u35 u36 u37 u38 u39 u40 u41 u42 u43 u44 u45 u46 u47 u48 u49 u50 u51 u52 u53 u54 u55 u56 u57 u58 u59 u60 u61 u62 u63 u64 u65 u66 u67 u68 u69 u70 u71 u72 u73 u74 u75 u76 u77 u78 u79 u80 u81 u82 u83 u84 u85 u86 u87 u88 u89 u90 u91 u92 u93 u94 u95 u96 u97 u98 u99 u100 u101 u102 u103 u104 u105 u106 u107 u108 u109 u110 u111 u112 u113 u114 u115 u116 u117 u118 u119 u120 u121 u122 u123 u124 u125 u126 u127 u128 u129 u130 u131 u132 u133 u134 u135 u136 u137 u138 u139 u140 u141 u142 u143 u144 u145 u146 u147 u148 u149 u150 u151 u152 u153 u154 u155 u156 u157 u158 u159 u160 u161 u162 u163 u164 u165 u166 u167 u168 u169 u170 u171 u172 u173 u174 u175 u176 u177 u178 u179 u180 u181 u182 u183 u184 u185 u186 u187 u188 u189 u190 u191 u192 u193 u194 u195 u196 u197 u198 u199 u200 u201 u202 u203 u204 u205 u206 u207 u208 u209 u210 u211 u212 u213 u214 u215 u216 u217 u218 u219 u220 u221 u222 u223 u224 u225 u226 u227 u228 u229 u230 u231 u232 u233 u234 u235 u236 u237 u238 u239 u240 u241 u242 u243 u244 u245 u246 u247 u248 u249 u250 u251 u252 u253 u254 u255 u256 u257 u258 u259 : Value) (Q : Exit → Act → World → Prop) (hlv : lv.length = 3) (hn : ds.length = n) (hn28 : n ≤ 28) (h32 : ∀ y ∈ ds, y.length = 32) (hh : hd.length = 32) (hrd : ∀ d : Nat, d < 3 → ∀ i : Nat, i ≤ n → M.readE (d : Int) ((6 + i : Nat) : Int) = 0 ∧ M.read (d : Int) ((6 + i : Nat) : Int) = wantB (lv.getD d false) hd ds i) (hI : (0 ≤ 3 ∧ KS W0 w b H M [(gl, Obj.cells (lv.map Value.bool).toArray 4 (0, 0))] [(A, ds)] [(Ah, hd)]))
    (hX : ∀ (v23 v24 v25 v26 v157 v158 v159 v160 v161 v162 v163 v164 v165 v166 v167 v168 v169 v170 v171 v172 v173 v174 v175 v176 v177 v178 v179 v180 v181 v182 v183 v184 v185 v186 v187 v188 v189 v190 v191 v192 v193 v194 v195 : Value) (d : Nat) (V : World), (d ≤ 3 ∧ KS W0 V b H M [(gl, Obj.cells (lv.map Value.bool).toArray 4 (0, 0))] [(A, ds)] [(Ah, hd)]) → (True) → Q (.exit 0) ⟨List.toArray ((.int .i64 ((en : Nat) : Int)) :: (.int .i64 ((xn : Nat) : Int)) :: (.int .i64 ((n : Nat) : Int)) :: u3 :: u4 :: u5 :: u6 :: u7 :: u8 :: u9 :: u10 :: u11 :: (.bool false) :: (.pointer (some ⟨b, 0, none⟩)) :: u14 :: (.slice (some ⟨gl, 0, none⟩) 3 3) :: (.slice A n c) :: u17 :: u18 :: u19 :: u20 :: (.slice Ah 32 ch) :: (.int .i64 ((d : Nat) : Int)) :: v23 :: v24 :: v25 :: v26 :: u27 :: u28 :: u29 :: u30 :: u31 :: u32 :: u33 :: u34 :: u35 :: u36 :: u37 :: u38 :: u39 :: u40 :: u41 :: u42 :: u43 :: u44 :: u45 :: u46 :: u47 :: u48 :: u49 :: u50 :: u51 :: u52 :: u53 :: u54 :: u55 :: u56 :: u57 :: u58 :: u59 :: u60 :: u61 :: u62 :: u63 :: u64 :: u65 :: u66 :: u67 :: u68 :: u69 :: u70 :: u71 :: u72 :: u73 :: u74 :: u75 :: u76 :: u77 :: u78 :: u79 :: u80 :: u81 :: u82 :: u83 :: u84 :: u85 :: u86 :: u87 :: u88 :: u89 :: u90 :: u91 :: u92 :: u93 :: u94 :: u95 :: u96 :: u97 :: u98 :: u99 :: u100 :: u101 :: u102 :: u103 :: u104 :: u105 :: u106 :: u107 :: u108 :: u109 :: u110 :: u111 :: u112 :: u113 :: u114 :: u115 :: u116 :: u117 :: u118 :: u119 :: u120 :: u121 :: u122 :: u123 :: u124 :: u125 :: u126 :: u127 :: u128 :: u129 :: u130 :: u131 :: u132 :: u133 :: u134 :: u135 :: u136 :: u137 :: u138 :: u139 :: u140 :: u141 :: u142 :: u143 :: u144 :: u145 :: u146 :: u147 :: u148 :: u149 :: u150 :: u151 :: u152 :: u153 :: u154 :: u155 :: u156 :: v157 :: v158 :: v159 :: v160 :: v161 :: v162 :: v163 :: v164 :: v165 :: v166 :: v167 :: v168 :: v169 :: v170 :: v171 :: v172 :: v173 :: v174 :: v175 :: v176 :: v177 :: v178 :: v179 :: v180 :: v181 :: v182 :: v183 :: v184 :: v185 :: v186 :: v187 :: v188 :: v189 :: v190 :: v191 :: v192 :: v193 :: v194 :: v195 :: u196 :: u197 :: u198 :: u199 :: u200 :: u201 :: u202 :: u203 :: u204 :: u205 :: u206 :: u207 :: u208 :: u209 :: u210 :: u211 :: u212 :: u213 :: u214 :: u215 :: u216 :: u217 :: u218 :: u219 :: u220 :: u221 :: u222 :: u223 :: u224 :: u225 :: u226 :: u227 :: u228 :: u229 :: u230 :: u231 :: u232 :: u233 :: u234 :: u235 :: u236 :: u237 :: u238 :: u239 :: u240 :: u241 :: u242 :: u243 :: u244 :: u245 :: u246 :: u247 :: u248 :: u249 :: u250 :: u251 :: u252 :: u253 :: u254 :: u255 :: u256 :: u257 :: u258 :: u259 :: []), []⟩ V) :
    Code.wp Tryd.prog (.loop (sub [1, 1, 1, 1, 1, 1, 1, 1, 1, 1, 1, 1, 1, 1, 0, 1, 0, 0] codeBB)) Q ⟨List.toArray ((.int .i64 ((en : Nat) : Int)) :: (.int .i64 ((xn : Nat) : Int)) :: (.int .i64 ((n : Nat) : Int)) :: u3 :: u4 :: u5 :: u6 :: u7 :: u8 :: u9 :: u10 :: u11 :: (.bool false) :: (.pointer (some ⟨b, 0, none⟩)) :: u14 :: (.slice (some ⟨gl, 0, none⟩) 3 3) :: (.slice A n c) :: u17 :: u18 :: u19 :: u20 :: (.slice Ah 32 ch) :: (.int .i64 ((0 : Nat) : Int)) :: u23 :: u24 :: u25 :: u26 :: u27 :: u28 :: u29 :: u30 :: u31 :: u32 :: u33 :: u34 :: u35 :: u36 :: u37 :: u38 :: u39 :: u40 :: u41 :: u42 :: u43 :: u44 :: u45 :: u46 :: u47 :: u48 :: u49 :: u50 :: u51 :: u52 :: u53 :: u54 :: u55 :: u56 :: u57 :: u58 :: u59 :: u60 :: u61 :: u62 :: u63 :: u64 :: u65 :: u66 :: u67 :: u68 :: u69 :: u70 :: u71 :: u72 :: u73 :: u74 :: u75 :: u76 :: u77 :: u78 :: u79 :: u80 :: u81 :: u82 :: u83 :: u84 :: u85 :: u86 :: u87 :: u88 :: u89 :: u90 :: u91 :: u92 :: u93 :: u94 :: u95 :: u96 :: u97 :: u98 :: u99 :: u100 :: u101 :: u102 :: u103 :: u104 :: u105 :: u106 :: u107 :: u108 :: u109 :: u110 :: u111 :: u112 :: u113 :: u114 :: u115 :: u116 :: u117 :: u118 :: u119 :: u120 :: u121 :: u122 :: u123 :: u124 :: u125 :: u126 :: u127 :: u128 :: u129 :: u130 :: u131 :: u132 :: u133 :: u134 :: u135 :: u136 :: u137 :: u138 :: u139 :: u140 :: u141 :: u142 :: u143 :: u144 :: u145 :: u146 :: u147 :: u148 :: u149 :: u150 :: u151 :: u152 :: u153 :: u154 :: u155 :: u156 :: u157 :: u158 :: u159 :: u160 :: u161 :: u162 :: u163 :: u164 :: u165 :: u166 :: u167 :: u168 :: u169 :: u170 :: u171 :: u172 :: u173 :: u174 :: u175 :: u176 :: u177 :: u178 :: u179 :: u180 :: u181 :: u182 :: u183 :: u184 :: u185 :: u186 :: u187 :: u188 :: u189 :: u190 :: u191 :: u192 :: u193 :: u194 :: u195 :: u196 :: u197 :: u198 :: u199 :: u200 :: u201 :: u202 :: u203 :: u204 :: u205 :: u206 :: u207 :: u208 :: u209 :: u210 :: u211 :: u212 :: u213 :: u214 :: u215 :: u216 :: u217 :: u218 :: u219 :: u220 :: u221 :: u222 :: u223 :: u224 :: u225 :: u226 :: u227 :: u228 :: u229 :: u230 :: u231 :: u232 :: u233 :: u234 :: u235 :: u236 :: u237 :: u238 :: u239 :: u240 :: u241 :: u242 :: u243 :: u244 :: u245 :: u246 :: u247 :: u248 :: u249 :: u250 :: u251 :: u252 :: u253 :: u254 :: u255 :: u256 :: u257 :: u258 :: u259 :: []), []⟩ w := by
  refine wp_loop_ghost (fun gk a V => ∀ C : Prop, (∀ (u23 u24 u25 u26 u157 u158 u159 u160 u161 u162 u163 u164 u165 u166 u167 u168 u169 u170 u171 u172 u173 u174 u175 u176 u177 u178 u179 u180 u181 u182 u183 u184 u185 u186 u187 u188 u189 u190 u191 u192 u193 u194 u195 : Value) (d : Nat), gk = 3 - d → (d ≤ 3 ∧ KS W0 V b H M [(gl, Obj.cells (lv.map Value.bool).toArray 4 (0, 0))] [(A, ds)] [(Ah, hd)]) → a = ⟨List.toArray ((.int .i64 ((en : Nat) : Int)) :: (.int .i64 ((xn : Nat) : Int)) :: (.int .i64 ((n : Nat) : Int)) :: u3 :: u4 :: u5 :: u6 :: u7 :: u8 :: u9 :: u10 :: u11 :: (.bool false) :: (.pointer (some ⟨b, 0, none⟩)) :: u14 :: (.slice (some ⟨gl, 0, none⟩) 3 3) :: (.slice A n c) :: u17 :: u18 :: u19 :: u20 :: (.slice Ah 32 ch) :: (.int .i64 ((d : Nat) : Int)) :: u23 :: u24 :: u25 :: u26 :: u27 :: u28 :: u29 :: u30 :: u31 :: u32 :: u33 :: u34 :: u35 :: u36 :: u37 :: u38 :: u39 :: u40 :: u41 :: u42 :: u43 :: u44 :: u45 :: u46 :: u47 :: u48 :: u49 :: u50 :: u51 :: u52 :: u53 :: u54 :: u55 :: u56 :: u57 :: u58 :: u59 :: u60 :: u61 :: u62 :: u63 :: u64 :: u65 :: u66 :: u67 :: u68 :: u69 :: u70 :: u71 :: u72 :: u73 :: u74 :: u75 :: u76 :: u77 :: u78 :: u79 :: u80 :: u81 :: u82 :: u83 :: u84 :: u85 :: u86 :: u87 :: u88 :: u89 :: u90 :: u91 :: u92 :: u93 :: u94 :: u95 :: u96 :: u97 :: u98 :: u99 :: u100 :: u101 :: u102 :: u103 :: u104 :: u105 :: u106 :: u107 :: u108 :: u109 :: u110 :: u111 :: u112 :: u113 :: u114 :: u115 :: u116 :: u117 :: u118 :: u119 :: u120 :: u121 :: u122 :: u123 :: u124 :: u125 :: u126 :: u127 :: u128 :: u129 :: u130 :: u131 :: u132 :: u133 :: u134 :: u135 :: u136 :: u137 :: u138 :: u139 :: u140 :: u141 :: u142 :: u143 :: u144 :: u145 :: u146 :: u147 :: u148 :: u149 :: u150 :: u151 :: u152 :: u153 :: u154 :: u155 :: u156 :: u157 :: u158 :: u159 :: u160 :: u161 :: u162 :: u163 :: u164 :: u165 :: u166 :: u167 :: u168 :: u169 :: u170 :: u171 :: u172 :: u173 :: u174 :: u175 :: u176 :: u177 :: u178 :: u179 :: u180 :: u181 :: u182 :: u183 :: u184 :: u185 :: u186 :: u187 :: u188 :: u189 :: u190 :: u191 :: u192 :: u193 :: u194 :: u195 :: u196 :: u197 :: u198 :: u199 :: u200 :: u201 :: u202 :: u203 :: u204 :: u205 :: u206 :: u207 :: u208 :: u209 :: u210 :: u211 :: u212 :: u213 :: u214 :: u215 :: u216 :: u217 :: u218 :: u219 :: u220 :: u221 :: u222 :: u223 :: u224 :: u225 :: u226 :: u227 :: u228 :: u229 :: u230 :: u231 :: u232 :: u233 :: u234 :: u235 :: u236 :: u237 :: u238 :: u239 :: u240 :: u241 :: u242 :: u243 :: u244 :: u245 :: u246 :: u247 :: u248 :: u249 :: u250 :: u251 :: u252 :: u253 :: u254 :: u255 :: u256 :: u257 :: u258 :: u259 :: []), []⟩ → C) → C) (3 - 0) ?_ ?_
  · intro C hC
    exact hC _ _ _ _ _ _ _ _ _ _ _ _ _ _ _ _ _ _ _ _ _ _ _ _ _ _ _ _ _ _ _ _ _ _ _ _ _ _ _ _ _ _ _ (0) rfl hI rfl
  · intro gk a V hI'
    refine hI' _ ?_
    intro u23 u24 u25 u26 u157 u158 u159 u160 u161 u162 u163 u164 u165 u166 u167 u168 u169 u170 u171 u172 u173 u174 u175 u176 u177 u178 u179 u180 u181 u182 u183 u184 u185 u186 u187 u188 u189 u190 u191 u192 u193 u194 u195 d hk hinv ha
    subst ha
    subst hk
    refine bbAb _ _ _ _ _ _ _ _ _ _ _ _ _ _ _ _ _ _ _ _ _ _ _ _ _ _ _ _ _ _ _ _ _ _ _ _ _ _ _ _ _ _ _ _ _ _ _ _ _ _ _ _ _ _ _ _ _ _ _ _ _ _ _ _ _ _ _ _ _ _ _ _ _ _ _ _ _ _ _ _ _ _ _ _ _ _ _ _ _ _ _ _ _ _ _ _ _ _ _ _ _ _ _ _ _ _ _ _ _ _ _ _ _ _ _ _ _ _ _ _ _ _ _ _ _ _ _ _ _ _ _ _ _ _ _ _ _ _ _ _ _ _ _ _ _ _ _ _ _ _ _ _ _ _ _ _ _ _ _ _ _ _ _ _ _ _ _ _ _ _ _ _ _ _ _ _ _ _ _ _ _ _ _ _ _ _ _ _ _ _ _ _ _ _ _ _ _ _ _ _ _ _ _ _ _ _ _ _ _ _ _ _ _ _ _ _ _ _ _ _ _ _ _ _ _ _ _ _ _ _ _ _ _ _ _ _ _ _ _ _ _ _ _ _ _ _ _ _ _ _ _ _ _ hlv hn hn28 h32 hh hrd hinv (fun v23 v24 v25 v26 v157 v158 v159 v160 v161 v162 v163 v164 v165 v166 v167 v168 v169 v170 v171 v172 v173 v174 v175 v176 v177 v178 v179 v180 v181 v182 v183 v184 v185 v186 v187 v188 v189 v190 v191 v192 v193 v194 v195  V2 h2 hm => ?_) (fun v23 v24 v25 v26 v157 v158 v159 v160 v161 v162 v163 v164 v165 v166 v167 v168 v169 v170 v171 v172 v173 v174 v175 v176 v177 v178 v179 v180 v181 v182 v183 v184 v185 v186 v187 v188 v189 v190 v191 v192 v193 v194 v195 hx => hX v23 v24 v25 v26 v157 v158 v159 v160 v161 v162 v163 v164 v165 v166 v167 v168 v169 v170 v171 v172 v173 v174 v175 v176 v177 v178 v179 v180 v181 v182 v183 v184 v185 v186 v187 v188 v189 v190 v191 v192 v193 v194 v195 d V hinv hx)
    refine ⟨_, hm, fun C hC => ?_⟩
    exact hC v23 v24 v25 v26 v157 v158 v159 v160 v161 v162 v163 v164 v165 v166 v167 v168 v169 v170 v171 v172 v173 v174 v175 v176 v177 v178 v179 v180 v181 v182 v183 v184 v185 v186 v187 v188 v189 v190 v191 v192 v193 v194 v195 ((d + 1)) rfl h2 rfl
end Go.Proofs.YtjnemopocmhfkaaDoor
end
section
set_option linter.unusedVariables false
set_option linter.unusedSimpArgs false
namespace Go.Proofs.YtjnemopocmhfkaaDoor
open Go.RowKit

def bbBad (e x : Int) (n : Nat) (f1 : Bool) : Bool := (decide (e < 0) || decide (65535 < e)) || ((decide (x < 0) || decide (16 < x)) || (decide (28 < n) || (f1 && decide (0 < n))))
theorem bbBad_no {e x : Int} {n : Nat} {f1 : Bool} (h : bbBad e x n f1 = false) : 0 ≤ e ∧ e ≤ 65535 ∧ 0 ≤ x ∧ x ≤ 16 ∧ n ≤ 28 ∧ (f1 = false ∨ n = 0) := by
  unfold bbBad at h
  simp only [Bool.or_eq_false_iff, decide_eq_false_iff_not, Bool.and_eq_false_iff] at h
  obtain ⟨⟨h1, h2⟩, ⟨h3, h4⟩, h5, h6⟩ := h
  exact ⟨by omega, by omega, by omega, by omega, by omega, h6.imp id (by omega)⟩
theorem bbBad_put {e x : Int} {n : Nat} {f1 : Bool} {ds : List (List UInt8)} (h : bbBad e x n f1 = true) (hn : ds.length = n) (hf : f1 = true → 0 < n → ds.any unlB = true) : bkBad e x ds = true := by
  cases hm : bkMay e x with
  | false => exact bkBad_may hm
  | true =>
    obtain ⟨h1, h2, h3, h4⟩ := (bkMay_iff e x).1 hm
    by_cases h28 : 28 < ds.length
    · exact bkBad_len hm h28
    · rw [bkBad_any hm h28]
      unfold bbBad at h
      rw [decide_eq_false (show ¬ e < 0 by omega), decide_eq_false (show ¬ 65535 < e by omega), decide_eq_false (show ¬ x < 0 by omega), decide_eq_false (show ¬ 16 < x by omega), decide_eq_false (show ¬ 28 < n by omega)] at h
      simp only [Bool.false_or, Bool.and_eq_true, decide_eq_true_eq] at h
      exact hf h.1 h.2
set_option maxRecDepth 100000 in
set_option maxHeartbeats 3200000 in
theorem bbR12 {e x how : Int} {n : Nat} {f1 bd : Bool} {w : World} (u3 u4 u6 u7 u8 u9 u10 u11 u12 u13 u14 u15 u16 u17 u18 u19 u20 u21 u22 u23 u24 u25 u26 u27 u28 u29 u30 u31 u32 u33 u34 u35 u36 u37 u38 u39 u40 u41 u42 u43 u44 u45 u46 u47 u48 u49 u50 u51 u52 u53 u54 u55 u56 u57 u58 u59 u60 u61 u62 u63 u64 u65 u66 u67 u68 u69 u70 u71 u72 u73 u74 u75 u76 u77 u78 u79 u80 u81 u82 u83 u84 u85 u86 u87 u88 u89 u90 u91 u92 u93 u94 u95 u96 u97 u98 u99 u100 u101 u102 u103 u104 u105 u106 u107 u108 u109 u110 u111 u112 u113 u114 u115 u116 u117 u118 u119 u120 u121 u122 u123 u124 u125 u126 u127 u128 u129 u130 u131 u132 u133 u134 u135 u136 u137 u138 u139 u140 u141 u142 u143 u144 u145 u146 u147 u148 u149 u150 u151 u152 u153 u154 u155 u156 u157 u158 u159 u160 u161 u162 u163 u164 u165 u166 u167 u168 u169 u170 u171 u172 u173 u174 u175 u176 u177 u178 u179 u180 u181 u182 u183 u184 u185 u186 u187 u188 u189 u190 u191 u192 u193 u194 u195 u196 u197 u198 u199 u200 u201 u202 u203 u204 u205 u206 u207 u208 u209 u210 u211 u212 u213 u214 u215 u216 u217 u218 u219 u220 u221 u222 u223 u224 u225 u226 u227 u228 u229 u230 u231 u232 u233 u234 u235 u236 u237 u238 u239 u240 u241 u242 u243 u244 u245 u246 u247 u248 u249 u250 u251 u252 u253 u254 u255 u256 u257 u258 u259 : Value) (K : Act → World → Prop) (Q0 : Exit → Act → World → Prop) (he : (-9223372036854775808 ≤ e ∧ e ≤ 9223372036854775807)) (hx : (-9223372036854775808 ≤ x ∧ x ≤ 9223372036854775807)) (hhow : (-9223372036854775808 ≤ how ∧ how ≤ 9223372036854775807)) (hf1 : (how.tmod 11 == 10) = f1) (hb : bbBad e x n f1 = bd)
    (hK : ∀ (v81 v82 v83 v84 v85 v86 v87 v88 v89 v90 v91 v92 v93 v94 v95 v96 v97 v98 v99 v100 v101 v102 v103 v104 v105 v106 v107 : Value), K ⟨List.toArray ((.int .i64 e) :: (.int .i64 x) :: (.int .i64 ((n : Nat) : Int)) :: u3 :: u4 :: (.int .i64 how) :: u6 :: u7 :: u8 :: u9 :: u10 :: u11 :: u12 :: u13 :: u14 :: u15 :: u16 :: u17 :: (.bool bd) :: u19 :: u20 :: u21 :: u22 :: u23 :: u24 :: u25 :: u26 :: u27 :: u28 :: u29 :: u30 :: u31 :: u32 :: u33 :: u34 :: u35 :: u36 :: u37 :: u38 :: u39 :: u40 :: u41 :: u42 :: u43 :: u44 :: u45 :: u46 :: u47 :: u48 :: u49 :: u50 :: u51 :: u52 :: u53 :: u54 :: u55 :: u56 :: u57 :: u58 :: u59 :: u60 :: u61 :: u62 :: u63 :: u64 :: u65 :: u66 :: u67 :: u68 :: u69 :: u70 :: u71 :: u72 :: u73 :: u74 :: u75 :: u76 :: u77 :: u78 :: u79 :: u80 :: v81 :: v82 :: v83 :: v84 :: v85 :: v86 :: v87 :: v88 :: v89 :: v90 :: v91 :: v92 :: v93 :: v94 :: v95 :: v96 :: v97 :: v98 :: v99 :: v100 :: v101 :: v102 :: v103 :: v104 :: v105 :: v106 :: v107 :: u108 :: u109 :: u110 :: u111 :: u112 :: u113 :: u114 :: u115 :: u116 :: u117 :: u118 :: u119 :: u120 :: u121 :: u122 :: u123 :: u124 :: u125 :: u126 :: u127 :: u128 :: u129 :: u130 :: u131 :: u132 :: u133 :: u134 :: u135 :: u136 :: u137 :: u138 :: u139 :: u140 :: u141 :: u142 :: u143 :: u144 :: u145 :: u146 :: u147 :: u148 :: u149 :: u150 :: u151 :: u152 :: u153 :: u154 :: u155 :: u156 :: u157 :: u158 :: u159 :: u160 :: u161 :: u162 :: u163 :: u164 :: u165 :: u166 :: u167 :: u168 :: u169 :: u170 :: u171 :: u172 :: u173 :: u174 :: u175 :: u176 :: u177 :: u178 :: u179 :: u180 :: u181 :: u182 :: u183 :: u184 :: u185 :: u186 :: u187 :: u188 :: u189 :: u190 :: u191 :: u192 :: u193 :: u194 :: u195 :: u196 :: u197 :: u198 :: u199 :: u200 :: u201 :: u202 :: u203 :: u204 :: u205 :: u206 :: u207 :: u208 :: u209 :: u210 :: u211 :: u212 :: u213 :: u214 :: u215 :: u216 :: u217 :: u218 :: u219 :: u220 :: u221 :: u222 :: u223 :: u224 :: u225 :: u226 :: u227 :: u228 :: u229 :: u230 :: u231 :: u232 :: u233 :: u234 :: u235 :: u236 :: u237 :: u238 :: u239 :: u240 :: u241 :: u242 :: u243 :: u244 :: u245 :: u246 :: u247 :: u248 :: u249 :: u250 :: u251 :: u252 :: u253 :: u254 :: u255 :: u256 :: u257 :: u258 :: u259 :: []), []⟩ w) :
    Code.wp Tryd.prog (sub [1, 1, 1, 1, 1, 1, 1, 1, 1, 0] codeBB) (Exit.then K Q0) ⟨List.toArray ((.int .i64 e) :: (.int .i64 x) :: (.int .i64 ((n : Nat) : Int)) :: u3 :: u4 :: (.int .i64 how) :: u6 :: u7 :: u8 :: u9 :: u10 :: u11 :: u12 :: u13 :: u14 :: u15 :: u16 :: u17 :: u18 :: u19 :: u20 :: u21 :: u22 :: u23 :: u24 :: u25 :: u26 :: u27 :: u28 :: u29 :: u30 :: u31 :: u32 :: u33 :: u34 :: u35 :: u36 :: u37 :: u38 :: u39 :: u40 :: u41 :: u42 :: u43 :: u44 :: u45 :: u46 :: u47 :: u48 :: u49 :: u50 :: u51 :: u52 :: u53 :: u54 :: u55 :: u56 :: u57 :: u58 :: u59 :: u60 :: u61 :: u62 :: u63 :: u64 :: u65 :: u66 :: u67 :: u68 :: u69 :: u70 :: u71 :: u72 :: u73 :: u74 :: u75 :: u76 :: u77 :: u78 :: u79 :: u80 :: u81 :: u82 :: u83 :: u84 :: u85 :: u86 :: u87 :: u88 :: u89 :: u90 :: u91 :: u92 :: u93 :: u94 :: u95 :: u96 :: u97 :: u98 :: u99 :: u100 :: u101 :: u102 :: u103 :: u104 :: u105 :: u106 :: u107 :: u108 :: u109 :: u110 :: u111 :: u112 :: u113 :: u114 :: u115 :: u116 :: u117 :: u118 :: u119 :: u120 :: u121 :: u122 :: u123 :: u124 :: u125 :: u126 :: u127 :: u128 :: u129 :: u130 :: u131 :: u132 :: u133 :: u134 :: u135 :: u136 :: u137 :: u138 :: u139 :: u140 :: u141 :: u142 :: u143 :: u144 :: u145 :: u146 :: u147 :: u148 :: u149 :: u150 :: u151 :: u152 :: u153 :: u154 :: u155 :: u156 :: u157 :: u158 :: u159 :: u160 :: u161 :: u162 :: u163 :: u164 :: u165 :: u166 :: u167 :: u168 :: u169 :: u170 :: u171 :: u172 :: u173 :: u174 :: u175 :: u176 :: u177 :: u178 :: u179 :: u180 :: u181 :: u182 :: u183 :: u184 :: u185 :: u186 :: u187 :: u188 :: u189 :: u190 :: u191 :: u192 :: u193 :: u194 :: u195 :: u196 :: u197 :: u198 :: u199 :: u200 :: u201 :: u202 :: u203 :: u204 :: u205 :: u206 :: u207 :: u208 :: u209 :: u210 :: u211 :: u212 :: u213 :: u214 :: u215 :: u216 :: u217 :: u218 :: u219 :: u220 :: u221 :: u222 :: u223 :: u224 :: u225 :: u226 :: u227 :: u228 :: u229 :: u230 :: u231 :: u232 :: u233 :: u234 :: u235 :: u236 :: u237 :: u238 :: u239 :: u240 :: u241 :: u242 :: u243 :: u244 :: u245 :: u246 :: u247 :: u248 :: u249 :: u250 :: u251 :: u252 :: u253 :: u254 :: u255 :: u256 :: u257 :: u258 :: u259 :: []), []⟩ w := by
  have HK := Lib.hid hK
  clear hK
  conv => arg 2; whnf
  by_cases c1 : e < 0
  · have hbv : bd = true := by rw [← hb]; unfold bbBad; rw [decide_eq_true c1]; rfl
    subst hbv
    clear hb
    go_wp2_with fail
    exact HK.out _ _ _ _ _ _ _ _ _ _ _ _ _ _ _ _ _ _ _ _ _ _ _ _ _ _ _ 
  by_cases c2 : 65535 < e
  · have i1 : e > 65535 := c2
    have hbv : bd = true := by rw [← hb]; unfold bbBad; rw [decide_eq_false c1, decide_eq_true c2]; rfl
    subst hbv
    clear hb
    go_wp2_with fail
    exact HK.out _ _ _ _ _ _ _ _ _ _ _ _ _ _ _ _ _ _ _ _ _ _ _ _ _ _ _ 
  by_cases c3 : x < 0
  · have hbv : bd = true := by rw [← hb]; unfold bbBad; rw [decide_eq_false c1, decide_eq_false c2, decide_eq_true c3]; rfl
    subst hbv
    clear hb
    go_wp2_with fail
    exact HK.out _ _ _ _ _ _ _ _ _ _ _ _ _ _ _ _ _ _ _ _ _ _ _ _ _ _ _ 
  by_cases c4 : 16 < x
  · have i1 : x > 16 := c4
    have hbv : bd = true := by rw [← hb]; unfold bbBad; rw [decide_eq_false c1, decide_eq_false c2, decide_eq_false c3, decide_eq_true c4]; rfl
    subst hbv
    clear hb
    go_wp2_with fail
    exact HK.out _ _ _ _ _ _ _ _ _ _ _ _ _ _ _ _ _ _ _ _ _ _ _ _ _ _ _ 
  by_cases c5 : 28 < n
  · have i1 : (28 : Int) < (n : Int) := by omega
    have hbv : bd = true := by rw [← hb]; unfold bbBad; rw [decide_eq_false c1, decide_eq_false c2, decide_eq_false c3, decide_eq_false c4, decide_eq_true c5]; rfl
    subst hbv
    clear hb
    go_wp2_with fail
    exact HK.out _ _ _ _ _ _ _ _ _ _ _ _ _ _ _ _ _ _ _ _ _ _ _ _ _ _ _ 
  have i1 : ¬ (28 : Int) < (n : Int) := by omega
  cases f1 with
  | false =>
    have hbv : bd = false := by rw [← hb]; unfold bbBad; rw [decide_eq_false c1, decide_eq_false c2, decide_eq_false c3, decide_eq_false c4, decide_eq_false c5]; rfl
    subst hbv
    clear hb
    go_wp2_with fail
    exact HK.out _ _ _ _ _ _ _ _ _ _ _ _ _ _ _ _ _ _ _ _ _ _ _ _ _ _ _ 
  | true =>
    by_cases c6 : 0 < n
    · have i2 : (0 : Int) < (n : Int) := by omega
      have hbv : bd = true := by rw [← hb]; unfold bbBad; rw [decide_eq_false c1, decide_eq_false c2, decide_eq_false c3, decide_eq_false c4, decide_eq_false c5, decide_eq_true c6]; rfl
      subst hbv
      clear hb
      go_wp2_with fail
      exact HK.out _ _ _ _ _ _ _ _ _ _ _ _ _ _ _ _ _ _ _ _ _ _ _ _ _ _ _ 
    · have i2 : ¬ (0 : Int) < (n : Int) := by omega
      have hbv : bd = false := by rw [← hb]; unfold bbBad; rw [decide_eq_false c1, decide_eq_false c2, decide_eq_false c3, decide_eq_false c4, decide_eq_false c5, decide_eq_false c6]; rfl
      subst hbv
      clear hb
      go_wp2_with fail
      exact HK.out _ _ _ _ _ _ _ _ _ _ _ _ _ _ _ _ _ _ _ _ _ _ _ _ _ _ _ 
set_option maxRecDepth 100000 in
set_option maxHeartbeats 8000000 in
theorem bbMid {W0 w : World} {A : Option Addr} {n c b gl : Nat} {e x how : Int} {lv : List Bool} {ds : List (List UInt8)} {H : BH} {f1 : Bool} (u3 u4 u6 u7 u8 u9 u10 u11 u14 u17 u18 u19 u20 u21 u22 u23 u24 u25 u26 u27 u28 u29 u30 u31 u32 u33 u34 u35 u36 u37 u38 u39 u40 u41 u42 u43 u44 u45 u46 u47 u48 u49 u50 u51 u52 u53 u54 u55 u56 u57 u58 u59 u60 u61 u62 u63 u64 u65 u66 u67 u68 u69 u70 u71 u72 u73 u74 u75 u76 u77 u78 u79 u80 u81 u82 u83 u84 u85 u86 u87 u88 u89 u90 u91 u92 u93 u94 u95 u96 u97 u98 u99 u100 u101 u102 u103 u104 u105 u106 u107 u108 u109 u110 u111 u112 u113 u114 u115 u116 u117 u118 u119 u120 u121 u122 u123 u124 u125 u126 u127 u128 u129 u130 u131 u132 u133 u134 u135 u136 u137 u138 u139 u140 u141 u142 u143 u144 u145 u146 u147 u148 u149 u150 u151 u152 u153 u154 u155 u156 u157 u158 u159 u160 u161 u162 u163 u164 u165 u166 u167 u168 u169 u170 u171 u172 u173 u174 u175 u176 u177 u178 u179 u180 u181 u182 u183 u184 u185 u186 u187 u188 u189 u190 u191 u192 u193 u194 u195 u196 u197 u198 u199 u200 u201 u202 u203 u204 u205 u206 u207 u208 u209 u210 u211 u212 u213 u214 u215 u216 u217 u218 u219 u220 u221 u222 u223 u224 u225 u226 u227 u228 u229 u230 u231 u232 u233 u234 u235 u236 u237 u238 u239 u240 u241 u242 u243 u244 u245 u246 u247 u248 u249 u250 u251 u252 u253 u254 u255 u256 u257 u258 u259 : Value) (Q : Exit → Act → World → Prop) (he : (-9223372036854775808 ≤ e ∧ e ≤ 9223372036854775807)) (hx : (-9223372036854775808 ≤ x ∧ x ≤ 9223372036854775807)) (hhow : (-9223372036854775808 ≤ how ∧ how ≤ 9223372036854775807)) (hf1 : (how.tmod 11 == 10) = f1) (hlv : lv.length = 3) (hn : ds.length = n) (hn30 : n ≤ 30)
    (hbad : f1 = true → 0 < n → ds.any unlB = true) (hok : (f1 = false ∨ n = 0) → ∀ y ∈ ds, y.length = 32) (ht : TabOk W0) (hk : KS W0 w b H (Bch.new 3) [(gl, Obj.cells (lv.map Value.bool).toArray 4 (0, 0))] [(A, ds)] [])
    (hQ : ∀ (v17 v18 v19 v20 v21 v22 v23 v24 v25 v26 v27 v28 v29 v30 v31 v32 v33 v75 v76 v77 v78 v79 v80 v81 v82 v83 v84 v85 v86 v87 v88 v89 v90 v91 v92 v93 v94 v95 v96 v97 v98 v99 v100 v101 v102 v103 v104 v105 v106 v107 v108 v109 v110 v111 v112 v113 v114 v115 v116 v117 v118 v119 v120 v121 v122 v123 v124 v125 v126 v127 v128 v129 v130 v131 v132 v133 v134 v135 v136 v137 v138 v139 v140 v141 v142 v143 v144 v145 v146 v147 v148 v149 v150 v151 v152 v153 v154 v155 v156 v157 v158 v159 v160 v161 v162 v163 v164 v165 v166 v167 v168 v169 v170 v171 v172 v173 v174 v175 v176 v177 v178 v179 v180 v181 v182 v183 v184 v185 v186 v187 v188 v189 v190 v191 v192 v193 v194 v195 v196 v197 v198 v199 v200 v201 v202 v203 v204 v205 v206 v207 v208 v209 v210 v211 v212 v213 v214 v215 v216 v217 v218 v219 v220 v221 v222 v223 v224 v225 v226 v227 v228 v229 v230 v231 v232 v233 v234 v235 v236 v237 v238 v239 v240 v241 v242 v243 v244 v245 v246 v247 v248 v249 v250 v251 v252 v253 v254 v255 v256 v257 v258 v259 : Value) (V : World), Below W0.heap.size W0 V → Q .ret ⟨List.toArray ((.int .i64 e) :: (.int .i64 x) :: (.int .i64 ((n : Nat) : Int)) :: u3 :: u4 :: (.int .i64 how) :: u6 :: u7 :: u8 :: u9 :: u10 :: u11 :: (.bool true) :: (.pointer (some ⟨b, 0, none⟩)) :: u14 :: (.slice (some ⟨gl, 0, none⟩) 3 3) :: (.slice A n c) :: v17 :: v18 :: v19 :: v20 :: v21 :: v22 :: v23 :: v24 :: v25 :: v26 :: v27 :: v28 :: v29 :: v30 :: v31 :: v32 :: v33 :: u34 :: u35 :: u36 :: u37 :: u38 :: u39 :: u40 :: u41 :: u42 :: u43 :: u44 :: u45 :: u46 :: u47 :: u48 :: u49 :: u50 :: u51 :: u52 :: u53 :: u54 :: u55 :: u56 :: u57 :: u58 :: u59 :: u60 :: u61 :: u62 :: u63 :: u64 :: u65 :: u66 :: u67 :: u68 :: u69 :: u70 :: u71 :: u72 :: u73 :: u74 :: v75 :: v76 :: v77 :: v78 :: v79 :: v80 :: v81 :: v82 :: v83 :: v84 :: v85 :: v86 :: v87 :: v88 :: v89 :: v90 :: v91 :: v92 :: v93 :: v94 :: v95 :: v96 :: v97 :: v98 :: v99 :: v100 :: v101 :: v102 :: v103 :: v104 :: v105 :: v106 :: v107 :: v108 :: v109 :: v110 :: v111 :: v112 :: v113 :: v114 :: v115 :: v116 :: v117 :: v118 :: v119 :: v120 :: v121 :: v122 :: v123 :: v124 :: v125 :: v126 :: v127 :: v128 :: v129 :: v130 :: v131 :: v132 :: v133 :: v134 :: v135 :: v136 :: v137 :: v138 :: v139 :: v140 :: v141 :: v142 :: v143 :: v144 :: v145 :: v146 :: v147 :: v148 :: v149 :: v150 :: v151 :: v152 :: v153 :: v154 :: v155 :: v156 :: v157 :: v158 :: v159 :: v160 :: v161 :: v162 :: v163 :: v164 :: v165 :: v166 :: v167 :: v168 :: v169 :: v170 :: v171 :: v172 :: v173 :: v174 :: v175 :: v176 :: v177 :: v178 :: v179 :: v180 :: v181 :: v182 :: v183 :: v184 :: v185 :: v186 :: v187 :: v188 :: v189 :: v190 :: v191 :: v192 :: v193 :: v194 :: v195 :: v196 :: v197 :: v198 :: v199 :: v200 :: v201 :: v202 :: v203 :: v204 :: v205 :: v206 :: v207 :: v208 :: v209 :: v210 :: v211 :: v212 :: v213 :: v214 :: v215 :: v216 :: v217 :: v218 :: v219 :: v220 :: v221 :: v222 :: v223 :: v224 :: v225 :: v226 :: v227 :: v228 :: v229 :: v230 :: v231 :: v232 :: v233 :: v234 :: v235 :: v236 :: v237 :: v238 :: v239 :: v240 :: v241 :: v242 :: v243 :: v244 :: v245 :: v246 :: v247 :: v248 :: v249 :: v250 :: v251 :: v252 :: v253 :: v254 :: v255 :: v256 :: v257 :: v258 :: v259 :: []), []⟩ V) :
    Code.wp Tryd.prog (sub [1, 1, 1, 1, 1, 1, 1, 1] codeBB) Q ⟨List.toArray ((.int .i64 e) :: (.int .i64 x) :: (.int .i64 ((n : Nat) : Int)) :: u3 :: u4 :: (.int .i64 how) :: u6 :: u7 :: u8 :: u9 :: u10 :: u11 :: (.bool false) :: (.pointer (some ⟨b, 0, none⟩)) :: u14 :: (.slice (some ⟨gl, 0, none⟩) 3 3) :: (.slice A n c) :: u17 :: u18 :: u19 :: u20 :: u21 :: u22 :: u23 :: u24 :: u25 :: u26 :: u27 :: u28 :: u29 :: u30 :: u31 :: u32 :: u33 :: u34 :: u35 :: u36 :: u37 :: u38 :: u39 :: u40 :: u41 :: u42 :: u43 :: u44 :: u45 :: u46 :: u47 :: u48 :: u49 :: u50 :: u51 :: u52 :: u53 :: u54 :: u55 :: u56 :: u57 :: u58 :: u59 :: u60 :: u61 :: u62 :: u63 :: u64 :: u65 :: u66 :: u67 :: u68 :: u69 :: u70 :: u71 :: u72 :: u73 :: u74 :: u75 :: u76 :: u77 :: u78 :: u79 :: u80 :: u81 :: u82 :: u83 :: u84 :: u85 :: u86 :: u87 :: u88 :: u89 :: u90 :: u91 :: u92 :: u93 :: u94 :: u95 :: u96 :: u97 :: u98 :: u99 :: u100 :: u101 :: u102 :: u103 :: u104 :: u105 :: u106 :: u107 :: u108 :: u109 :: u110 :: u111 :: u112 :: u113 :: u114 :: u115 :: u116 :: u117 :: u118 :: u119 :: u120 :: u121 :: u122 :: u123 :: u124 :: u125 :: u126 :: u127 :: u128 :: u129 :: u130 :: u131 :: u132 :: u133 :: u134 :: u135 :: u136 :: u137 :: u138 :: u139 :: u140 :: u141 :: u142 :: u143 :: u144 :: u145 :: u146 :: u147 :: u148 :: u149 :: u150 :: u151 :: u152 :: u153 :: u154 :: u155 :: u156 :: u157 :: u158 :: u159 :: u160 :: u161 :: u162 :: u163 :: u164 :: u165 :: u166 :: u167 :: u168 :: u169 :: u170 :: u171 :: u172 :: u173 :: u174 :: u175 :: u176 :: u177 :: u178 :: u179 :: u180 :: u181 :: u182 :: u183 :: u184 :: u185 :: u186 :: u187 :: u188 :: u189 :: u190 :: u191 :: u192 :: u193 :: u194 :: u195 :: u196 :: u197 :: u198 :: u199 :: u200 :: u201 :: u202 :: u203 :: u204 :: u205 :: u206 :: u207 :: u208 :: u209 :: u210 :: u211 :: u212 :: u213 :: u214 :: u215 :: u216 :: u217 :: u218 :: u219 :: u220 :: u221 :: u222 :: u223 :: u224 :: u225 :: u226 :: u227 :: u228 :: u229 :: u230 :: u231 :: u232 :: u233 :: u234 :: u235 :: u236 :: u237 :: u238 :: u239 :: u240 :: u241 :: u242 :: u243 :: u244 :: u245 :: u246 :: u247 :: u248 :: u249 :: u250 :: u251 :: u252 :: u253 :: u254 :: u255 :: u256 :: u257 :: u258 :: u259 :: []), []⟩ w := by
  have HQ := Lib.hid hQ
  have Ht := Lib.hid ht
  have HKs := Lib.hid hk
  obtain ⟨bd, hbd⟩ : ∃ bd, bbBad e x n f1 = bd := ⟨_, rfl⟩
  have Hf1 := Lib.hid hf1
  have Hbd := Lib.hid hbd
  have hlv' := hlv
  have hn' := hn
  replace hlv := Lib.hid hlv
  replace hn := Lib.hid hn
  clear hQ ht hf1
  conv => arg 2; whnf
  have C1 := ks_bput hk lv (some ⟨gl, 0, none⟩) 3 3 hlv'.symm (hk.lv (g := gl) (lv := lv) (t := 4) (f := (0, 0)) (by simp) rfl (by omega)) e x he hx (A2 := A) (ds := ds) n c hn' (by omega) (hk.rx _ (List.mem_cons_self ..)) (fun i _ => by show (0 : Nat) ≤ _; omega) (by show (0 : Nat) ≤ _; omega) Ht.out
  cases hbb : bd with
  | true =>
    rw [bkS_bad (bbBad_put (hbd.trans hbb) hn' hbad)] at C1
    replace C1 := Lib.hid C1
    rw [hbb] at Hbd
    clear hbb hbd hbad hok hk hlv' hn'
    go_upto_region 12 with ((with_reducible refine C1.out.mono ?_); rintro e1 w1 ⟨rfl, H1, k1⟩; have K1 := Lib.hid k1; clear k1 C1)
    refine bbR12 _ _ _ _ _ _ _ _ _ _ _ _ _ _ _ _ _ _ _ _ _ _ _ _ _ _ _ _ _ _ _ _ _ _ _ _ _ _ _ _ _ _ _ _ _ _ _ _ _ _ _ _ _ _ _ _ _ _ _ _ _ _ _ _ _ _ _ _ _ _ _ _ _ _ _ _ _ _ _ _ _ _ _ _ _ _ _ _ _ _ _ _ _ _ _ _ _ _ _ _ _ _ _ _ _ _ _ _ _ _ _ _ _ _ _ _ _ _ _ _ _ _ _ _ _ _ _ _ _ _ _ _ _ _ _ _ _ _ _ _ _ _ _ _ _ _ _ _ _ _ _ _ _ _ _ _ _ _ _ _ _ _ _ _ _ _ _ _ _ _ _ _ _ _ _ _ _ _ _ _ _ _ _ _ _ _ _ _ _ _ _ _ _ _ _ _ _ _ _ _ _ _ _ _ _ _ _ _ _ _ _ _ _ _ _ _ _ _ _ _ _ _ _ _ _ _ _ _ _ _ _ _ _ _ _ _ _ _ _ _ _ _ _ _ _ _ _ _ _ _ _ _ _ _ _ _ _ _ he hx hhow Hf1.out Hbd.out ?_
    intro v81 v82 v83 v84 v85 v86 v87 v88 v89 v90 v91 v92 v93 v94 v95 v96 v97 v98 v99 v100 v101 v102 v103 v104 v105 v106 v107
    refine ‹∀ (a : Act) (w : World), Code.wp Tryd.prog _ Q a w → _› _ _ ?_
    have C2 := Lib.hid (ks_bget K1.out lv (some ⟨gl, 0, none⟩) 3 3 hlv.out.symm (K1.out.lv (g := gl) (lv := lv) (t := 4) (f := (0, 0)) (by simp) rfl (by rw [hlv.out]; omega)) e x he hx Ht.out)
    rw [(got_none (N := Bch.new 3) (lv := lv) (e := e) (x := x) (fun i _ => new_sec6 3 i (by omega))).1] at C2
    clear HKs
    go_wp2_with fail
    (with_reducible refine C2.out.mono ?_); rintro e2 w2 ⟨A2, c2, rfl, k2⟩
    have K2 := Lib.hid k2
    have C3 := bp_writes _ _ _ _ _ k2.bp
    rw [show (((Bch.new 3).done : Nat) : Int) = 0 from rfl] at C3
    replace C3 := Lib.hid C3
    have HF := Lib.hid k2.bp.bel
    have CW := Lib.hid (bkWakes_any w2 (Ht.out.below k2.bp.bel Ht.out.pos))
    clear k2 C2 K1
    go_wp2_with fail
    (with_reducible refine C3.out.mono ?_); rintro e3 w3 ⟨rfl, hw3⟩
    have hw3' := hw3.symm
    subst hw3'
    clear C3 hw3
    go_wp2_with fail
    (with_reducible refine CW.out.mono ?_); rintro e9 w9 ⟨rfl, hb9⟩
    have F9 := Lib.hid (HF.out.trans (hb9.mono HF.out.size))
    clear hb9 CW HF
    go_wp2_with fail
    exact HQ.out _ _ _ _ _ _ _ _ _ _ _ _ _ _ _ _ _ _ _ _ _ _ _ _ _ _ _ _ _ _ _ _ _ _ _ _ _ _ _ _ _ _ _ _ _ _ _ _ _ _ _ _ _ _ _ _ _ _ _ _ _ _ _ _ _ _ _ _ _ _ _ _ _ _ _ _ _ _ _ _ _ _ _ _ _ _ _ _ _ _ _ _ _ _ _ _ _ _ _ _ _ _ _ _ _ _ _ _ _ _ _ _ _ _ _ _ _ _ _ _ _ _ _ _ _ _ _ _ _ _ _ _ _ _ _ _ _ _ _ _ _ _ _ _ _ _ _ _ _ _ _ _ _ _ _ _ _ _ _ _ _ _ _ _ _ _ _ _ _ _ _ _ _ _ _ _ _ _ _ _ _ _ _ _ _ _ _ _ _ _ _ _ _ _ _ _ _ _ _ _ _ _ _ F9.out
  | false =>
    rw [hbb] at Hbd
    obtain ⟨a1, a2, a3, a4, hn28, a6⟩ := bbBad_no Hbd.out
    obtain ⟨en, rfl⟩ : ∃ k : Nat, e = (k : Int) := ⟨e.toNat, by omega⟩
    obtain ⟨xn, rfl⟩ : ∃ k : Nat, x = (k : Int) := ⟨x.toNat, by omega⟩
    have h32 := hok a6
    obtain ⟨M, hG⟩ := bb_good ((bkMay_iff _ _).2 ⟨a1, a2, a3, a4⟩) (by omega) h32 lv
    have HG := Lib.hid hG
    rw [hG.put] at C1
    replace C1 := Lib.hid C1
    obtain ⟨e2, he2⟩ : ∃ e2 : Nat, (en + 1) % 65536 = e2 := ⟨_, rfl⟩
    obtain ⟨x2, hx2⟩ : ∃ x2 : Nat, (xn + 1) % 17 = x2 := ⟨_, rfl⟩
    have HO := Lib.hid (hG.oth e2 (by omega) (by omega))
    have HT := Lib.hid (hG.thr x2 (by omega) (by omega))
    have r1 : ((en : Int) + 1).tmod 65536 = (e2 : Int) := by rw [Int.tmod_eq_emod_of_nonneg (by omega)]; omega
    have r2 : ((en : Int) + 1) % 65536 = (e2 : Int) := by omega
    have r3 : ((xn : Int) + 1).tmod 17 = (x2 : Int) := by rw [Int.tmod_eq_emod_of_nonneg (by omega)]; omega
    have r4 : ((xn : Int) + 1) % 17 = (x2 : Int) := by omega
    have HPd := Lib.hid (show (M.pend : Int) = 0 by rw [show M.pend = 0 from offs_zero fun i _ => hG.cl.ps i]; rfl)
    have Hps := Lib.hid (show ∀ i, i < M.n → (M.D i).ps.length ≤ 2000000 from fun i _ => by rw [hG.cl.ps i]; exact Nat.zero_le _)
    have hrd := hG.rd
    rw [hn'] at hrd
    have e2b : e2 < 65536 := by omega
    have x2b : x2 < 17 := by omega
    clear hbb hbd hbad hok hk hG a6 he2 hx2
    go_upto_region 12 with ((with_reducible refine C1.out.mono ?_); rintro e1 w1 ⟨rfl, H1, k1⟩; have K1 := Lib.hid k1; clear k1 C1)
    refine bbR12 _ _ _ _ _ _ _ _ _ _ _ _ _ _ _ _ _ _ _ _ _ _ _ _ _ _ _ _ _ _ _ _ _ _ _ _ _ _ _ _ _ _ _ _ _ _ _ _ _ _ _ _ _ _ _ _ _ _ _ _ _ _ _ _ _ _ _ _ _ _ _ _ _ _ _ _ _ _ _ _ _ _ _ _ _ _ _ _ _ _ _ _ _ _ _ _ _ _ _ _ _ _ _ _ _ _ _ _ _ _ _ _ _ _ _ _ _ _ _ _ _ _ _ _ _ _ _ _ _ _ _ _ _ _ _ _ _ _ _ _ _ _ _ _ _ _ _ _ _ _ _ _ _ _ _ _ _ _ _ _ _ _ _ _ _ _ _ _ _ _ _ _ _ _ _ _ _ _ _ _ _ _ _ _ _ _ _ _ _ _ _ _ _ _ _ _ _ _ _ _ _ _ _ _ _ _ _ _ _ _ _ _ _ _ _ _ _ _ _ _ _ _ _ _ _ _ _ _ _ _ _ _ _ _ _ _ _ _ _ _ _ _ _ _ _ _ _ _ _ _ _ _ _ _ _ _ _ _ he hx hhow Hf1.out Hbd.out ?_
    intro v81 v82 v83 v84 v85 v86 v87 v88 v89 v90 v91 v92 v93 v94 v95 v96 v97 v98 v99 v100 v101 v102 v103 v104 v105 v106 v107
    refine ‹∀ (a : Act) (w : World), Code.wp Tryd.prog _ Q a w → _› _ _ ?_
    have C2 := bp_pending_eq _ _ _ _ _ K1.out.bp Hps.out
    rw [HPd.out] at C2
    replace C2 := Lib.hid C2
    clear HKs Hps HPd
    go_wp2_with fail
    (with_reducible refine C2.out.mono ?_); rintro e3 w3 ⟨rfl, hw3⟩
    have hw3' := hw3.symm
    subst hw3'
    clear C2 hw3
    have hcv := conv_const w1 w1.heap.size #[.int .u8 87, .int .u8 66, .int .u8 65, .int .u8 75] 4 4 rfl
    have E1 : ((en : Int) / 256) = ((UInt8.ofNat (en / 256)).toNat : Int) := by rw [UInt8.toNat_ofNat']; omega
    have E0 : ((en : Int) % 256) = ((UInt8.ofNat en).toNat : Int) := by rw [UInt8.toNat_ofNat']; omega
    have Ex : ((xn : Int)) = ((UInt8.ofNat xn).toNat : Int) := by rw [UInt8.toNat_ofNat']; omega
    have En : ((n : Int)) = ((UInt8.ofNat n).toNat : Int) := by rw [UInt8.toNat_ofNat']; omega
    obtain ⟨W2, hW2⟩ : ∃ W2, W2 = (w1.alloc (.cells #[.int .u8 87, .int .u8 66, .int .u8 65, .int .u8 75] 5 (4, 5))).alloc (.cells #[.int .u8 ((en : Int) / 256), .int .u8 ((en : Int) % 256), .int .u8 (xn : Int), .int .u8 (n : Int)] 5) := ⟨_, rfl⟩
    have R0 := Lib.hid (show RdB W2 W2.heap.size (some ⟨w1.heap.size, 0, none⟩) [87, 66, 65, 75] from by
      subst hW2
      exact rdb_lit ((hp_old _ _ _ (by simp)).trans (hp_new w1 _ _ rfl)) (by simp) rfl)
    have R1 := Lib.hid (show RdB W2 W2.heap.size (some ⟨w1.heap.size + 1, 0, none⟩) [UInt8.ofNat (en / 256), UInt8.ofNat en, UInt8.ofNat xn, UInt8.ofNat n] from by
      subst hW2
      refine rdb_lit (hp_new _ _ _ (by simp)) (by simp) ?_
      rw [E1, E0, Ex, En]; rfl)
    have B2 := Lib.hid (show Below w1.heap.size w1 W2 from by subst hW2; exact below2 w1 _ _)
    have HW2 := Lib.hid hW2
    clear hW2 E1 E0 Ex En
    go_upto_block 0 with (first
      | ((with_reducible refine (id ?_ : wpList _ _ _ (⟨some 152, _, _, _, _, _⟩ :: _) _ _)); rw [← show W2 = _ from HW2.out]; refine wpList_append_F _ rfl _ _ _ rfl 5 Tryd.underlying48 info_u8 (some ⟨w1.heap.size, 0, none⟩) 4 _ _ rfl rfl (by omega) R0.out (some ⟨w1.heap.size + 1, 0, none⟩) 4 4 _ [UInt8.ofNat (en / 256), UInt8.ofNat en, UInt8.ofNat xn, UInt8.ofNat n] rfl rfl (by simp) R1.out (by simp) ?_
         intro v3 w3 o3 hb3
         have O3 := Lib.hid o3
         have B3 := Lib.hid (B2.out.trans (hb3.mono B2.out.size))
         have Z3 := Lib.hid hb3.size
         clear o3 hb3 hcv HW2 R0 R1)
      | ((with_reducible refine (id ?_ : wpList _ _ _ (⟨some 154, _, _, _, _, _⟩ :: _) _ _)); refine wpList_append_Z _ rfl _ _ _ _ rfl W2.heap.size 5 .i64 Tryd.underlying48 Tryd.underlying3 info_u8 v3 _ rfl O3.out .i64 24 rfl (by omega) (by simp) Z3.out ?_
         intro v4 w4 o4 g4 _
         have B4 := Lib.hid (B3.out.grown g4 B3.out.size (fun j q => by have := (O3.out.lt j q).1; have := B2.out.size; omega))
         have O4 := Lib.hid (show OwB 5 w4 W2.heap.size v4 (bkH en xn n) from o4)
         obtain ⟨A4, c4, rfl, _, r4⟩ := O4.out.rd
         have R4 := Lib.hid r4
         have K4 := Lib.hid (K1.out.below B4.out)
         have CS := Lib.hid (refSealed_n A4 A (bkH en xn n).length c4 c (bkH en xn n) ds n w4 (bkH_len _ _ _) hn.out (by omega) (bkH_len _ _ _) r4 (K4.out.rd (List.mem_cons_self ..)))
         clear o4 g4 r4 B3 O3 Z3)
      | (go_at_call 18; (with_reducible refine CS.out.mono ?_); rintro e5 w5 ⟨v5, rfl, o5, hb5⟩
         obtain ⟨Ah, ch, rfl, _, _⟩ := o5.rd
         have K5 := Lib.hid (K4.out.slice hb5 o5.rdbf)
         have hh32 : (stamped (bkH en xn n) ds).length = 32 := stamped_len _ _ (bkH_len _ _ _)
         rw [hh32]
         clear o5 hb5 CS K4 O4 B4 R4))
    refine wp_block ?_
    have hbk : bkB en xn ds = stamped (bkH en xn n) ds := by unfold bkB; rw [hn']
    rw [hbk] at hrd
    refine bbA _ _ _ _ _ _ _ _ _ _ _ _ _ _ _ _ _ _ _ _ _ _ _ _ _ _ _ _ _ _ _ _ _ _ _ _ _ _ _ _ _ _ _ _ _ _ _ _ _ _ _ _ _ _ _ _ _ _ _ _ _ _ _ _ _ _ _ _ _ _ _ _ _ _ _ _ _ _ _ _ _ _ _ _ _ _ _ _ _ _ _ _ _ _ _ _ _ _ _ _ _ _ _ _ _ _ _ _ _ _ _ _ _ _ _ _ _ _ _ _ _ _ _ _ _ _ _ _ _ _ _ _ _ _ _ _ _ _ _ _ _ _ _ _ _ _ _ _ _ _ _ _ _ _ _ _ _ _ _ _ _ _ _ _ _ _ _ _ _ _ _ _ _ _ _ _ _ _ _ _ _ _ _ _ _ _ _ _ _ _ _ _ _ _ _ _ _ _ _ _ _ _ _ _ _ _ _ _ _ _ _ _ _ _ _ _ _ _ _ _ _ _ _ _ _ _ _ _ _ _ _ _ _ _ _ _ _ _ _ _ _ _ _ _ _ _ _ _ _ _ _ _ hlv' hn' hn28 h32 hh32 hrd ⟨Nat.zero_le _, K5.out⟩ (fun v23 v24 v25 v26 v157 v158 v159 v160 v161 v162 v163 v164 v165 v166 v167 v168 v169 v170 v171 v172 v173 v174 v175 v176 v177 v178 v179 v180 v181 v182 v183 v184 v185 v186 v187 v188 v189 v190 v191 v192 v193 v194 v195 d V2 hI2 _ => ?_)
    have K4 := Lib.hid hI2.2
    have hlc := hI2.2.kx.kp _ (List.mem_cons_self ..)
    have hcell : ∀ j, j < 3 → V2.cell? ⟨gl, j, none⟩ = some (.bool (lv.getD j false)) := fun j hj => by
      rw [cell_of_row V2 gl j _ _ _ hlc.1, List.getElem?_toArray, List.getElem?_map, List.getElem?_eq_getElem (by omega)]
      simp [List.getD_eq_getElem?_getD, hlv', hj]
    have z0 := hcell 0 (by omega)
    have z1 := hcell 1 (by omega)
    have z2 := hcell 2 (by omega)
    clear hI2 hlc hcell K1 K5 hrd h32 hh32 hbk hlv' hn' B2
    cases q0 : lv.getD 0 false with
    | true =>
      rw [q0] at z0
      have HA := Lib.hid (show anyL lv = true by unfold anyL; rw [q0]; rfl)
      clear q0
      have C5 := Lib.hid (ks_bget K4.out lv (some ⟨gl, 0, none⟩) 3 3 hlv.out.symm (K4.out.lv (g := gl) (lv := lv) (t := 4) (f := (0, 0)) (by simp) rfl (by rw [hlv.out]; omega)) (en : Int) (xn : Int) (by omega) (by omega) Ht.out)
      rw [HG.out.got.1, HA.out, HG.out.got.2 HA.out, hn.out] at C5
      go_wp2_with fail
      (with_reducible refine C5.out.mono ?_); rintro e5 w5 ⟨A5, c5, rfl, k5⟩
      have K5 := Lib.hid k5
      have C6 := Lib.hid (ks_bget k5 lv (some ⟨gl, 0, none⟩) 3 3 hlv.out.symm (k5.lv (g := gl) (lv := lv) (t := 4) (f := (0, 0)) (by simp) rfl (by rw [hlv.out]; omega)) (e2 : Int) (xn : Int) (by omega) (by omega) Ht.out)
      rw [HO.out] at C6
      clear k5 C5 K4
      go_wp2_with fail
      (with_reducible refine C6.out.mono ?_); rintro e6 w6 ⟨A6, c6, rfl, k6⟩
      have K6 := Lib.hid k6
      have C7 := Lib.hid (ks_bget k6 lv (some ⟨gl, 0, none⟩) 3 3 hlv.out.symm (k6.lv (g := gl) (lv := lv) (t := 4) (f := (0, 0)) (by simp) rfl (by rw [hlv.out]; omega)) (en : Int) (x2 : Int) (by omega) (by omega) Ht.out)
      rw [HT.out] at C7
      clear k6 C6 K5
      go_wp2_with fail
      (with_reducible refine C7.out.mono ?_); rintro e7 w7 ⟨A7, c7, rfl, k7⟩
      have K7 := Lib.hid k7
      have C8 := Lib.hid (ks_sameR k7 (A := A5) (A' := A) (ra := ds) (rb := ds) n n c5 c hn.out hn.out (by simp) (by simp))
      rw [show decide (ds = ds) = true from decide_eq_true rfl] at C8
      clear k7 C7 K6
      go_wp2_with fail
      (with_reducible refine C8.out.mono ?_); rintro e8 w8 ⟨rfl, k8⟩
      have HF := Lib.hid k8.bp.bel
      have CW := Lib.hid (bkWakes_any w8 (Ht.out.below k8.bp.bel Ht.out.pos))
      clear k8 C8 K7
      go_wp2_with fail
      (with_reducible refine CW.out.mono ?_); rintro e9 w9 ⟨rfl, hb9⟩
      have F9 := Lib.hid (HF.out.trans (hb9.mono HF.out.size))
      clear hb9 CW HF
      go_wp2_with fail
      exact HQ.out _ _ _ _ _ _ _ _ _ _ _ _ _ _ _ _ _ _ _ _ _ _ _ _ _ _ _ _ _ _ _ _ _ _ _ _ _ _ _ _ _ _ _ _ _ _ _ _ _ _ _ _ _ _ _ _ _ _ _ _ _ _ _ _ _ _ _ _ _ _ _ _ _ _ _ _ _ _ _ _ _ _ _ _ _ _ _ _ _ _ _ _ _ _ _ _ _ _ _ _ _ _ _ _ _ _ _ _ _ _ _ _ _ _ _ _ _ _ _ _ _ _ _ _ _ _ _ _ _ _ _ _ _ _ _ _ _ _ _ _ _ _ _ _ _ _ _ _ _ _ _ _ _ _ _ _ _ _ _ _ _ _ _ _ _ _ _ _ _ _ _ _ _ _ _ _ _ _ _ _ _ _ _ _ _ _ _ _ _ _ _ _ _ _ _ _ _ _ _ _ _ _ _ F9.out
    | false =>
      rw [q0] at z0
      cases q1 : lv.getD 1 false with
      | true =>
        rw [q1] at z1
        have HA := Lib.hid (show anyL lv = true by unfold anyL; rw [q0, q1]; rfl)
        clear q0 q1
        have C5 := Lib.hid (ks_bget K4.out lv (some ⟨gl, 0, none⟩) 3 3 hlv.out.symm (K4.out.lv (g := gl) (lv := lv) (t := 4) (f := (0, 0)) (by simp) rfl (by rw [hlv.out]; omega)) (en : Int) (xn : Int) (by omega) (by omega) Ht.out)
        rw [HG.out.got.1, HA.out, HG.out.got.2 HA.out, hn.out] at C5
        go_wp2_with fail
        (with_reducible refine C5.out.mono ?_); rintro e5 w5 ⟨A5, c5, rfl, k5⟩
        have K5 := Lib.hid k5
        have C6 := Lib.hid (ks_bget k5 lv (some ⟨gl, 0, none⟩) 3 3 hlv.out.symm (k5.lv (g := gl) (lv := lv) (t := 4) (f := (0, 0)) (by simp) rfl (by rw [hlv.out]; omega)) (e2 : Int) (xn : Int) (by omega) (by omega) Ht.out)
        rw [HO.out] at C6
        clear k5 C5 K4
        go_wp2_with fail
        (with_reducible refine C6.out.mono ?_); rintro e6 w6 ⟨A6, c6, rfl, k6⟩
        have K6 := Lib.hid k6
        have C7 := Lib.hid (ks_bget k6 lv (some ⟨gl, 0, none⟩) 3 3 hlv.out.symm (k6.lv (g := gl) (lv := lv) (t := 4) (f := (0, 0)) (by simp) rfl (by rw [hlv.out]; omega)) (en : Int) (x2 : Int) (by omega) (by omega) Ht.out)
        rw [HT.out] at C7
        clear k6 C6 K5
        go_wp2_with fail
        (with_reducible refine C7.out.mono ?_); rintro e7 w7 ⟨A7, c7, rfl, k7⟩
        have K7 := Lib.hid k7
        have C8 := Lib.hid (ks_sameR k7 (A := A5) (A' := A) (ra := ds) (rb := ds) n n c5 c hn.out hn.out (by simp) (by simp))
        rw [show decide (ds = ds) = true from decide_eq_true rfl] at C8
        clear k7 C7 K6
        go_wp2_with fail
        (with_reducible refine C8.out.mono ?_); rintro e8 w8 ⟨rfl, k8⟩
        have HF := Lib.hid k8.bp.bel
        have CW := Lib.hid (bkWakes_any w8 (Ht.out.below k8.bp.bel Ht.out.pos))
        clear k8 C8 K7
        go_wp2_with fail
        (with_reducible refine CW.out.mono ?_); rintro e9 w9 ⟨rfl, hb9⟩
        have F9 := Lib.hid (HF.out.trans (hb9.mono HF.out.size))
        clear hb9 CW HF
        go_wp2_with fail
        exact HQ.out _ _ _ _ _ _ _ _ _ _ _ _ _ _ _ _ _ _ _ _ _ _ _ _ _ _ _ _ _ _ _ _ _ _ _ _ _ _ _ _ _ _ _ _ _ _ _ _ _ _ _ _ _ _ _ _ _ _ _ _ _ _ _ _ _ _ _ _ _ _ _ _ _ _ _ _ _ _ _ _ _ _ _ _ _ _ _ _ _ _ _ _ _ _ _ _ _ _ _ _ _ _ _ _ _ _ _ _ _ _ _ _ _ _ _ _ _ _ _ _ _ _ _ _ _ _ _ _ _ _ _ _ _ _ _ _ _ _ _ _ _ _ _ _ _ _ _ _ _ _ _ _ _ _ _ _ _ _ _ _ _ _ _ _ _ _ _ _ _ _ _ _ _ _ _ _ _ _ _ _ _ _ _ _ _ _ _ _ _ _ _ _ _ _ _ _ _ _ _ _ _ _ _ F9.out
      | false =>
        rw [q1] at z1
        cases q2 : lv.getD 2 false with
        | true =>
          rw [q2] at z2
          have HA := Lib.hid (show anyL lv = true by unfold anyL; rw [q0, q1, q2]; rfl)
          clear q0 q1 q2
          have C5 := Lib.hid (ks_bget K4.out lv (some ⟨gl, 0, none⟩) 3 3 hlv.out.symm (K4.out.lv (g := gl) (lv := lv) (t := 4) (f := (0, 0)) (by simp) rfl (by rw [hlv.out]; omega)) (en : Int) (xn : Int) (by omega) (by omega) Ht.out)
          rw [HG.out.got.1, HA.out, HG.out.got.2 HA.out, hn.out] at C5
          go_wp2_with fail
          (with_reducible refine C5.out.mono ?_); rintro e5 w5 ⟨A5, c5, rfl, k5⟩
          have K5 := Lib.hid k5
          have C6 := Lib.hid (ks_bget k5 lv (some ⟨gl, 0, none⟩) 3 3 hlv.out.symm (k5.lv (g := gl) (lv := lv) (t := 4) (f := (0, 0)) (by simp) rfl (by rw [hlv.out]; omega)) (e2 : Int) (xn : Int) (by omega) (by omega) Ht.out)
          rw [HO.out] at C6
          clear k5 C5 K4
          go_wp2_with fail
          (with_reducible refine C6.out.mono ?_); rintro e6 w6 ⟨A6, c6, rfl, k6⟩
          have K6 := Lib.hid k6
          have C7 := Lib.hid (ks_bget k6 lv (some ⟨gl, 0, none⟩) 3 3 hlv.out.symm (k6.lv (g := gl) (lv := lv) (t := 4) (f := (0, 0)) (by simp) rfl (by rw [hlv.out]; omega)) (en : Int) (x2 : Int) (by omega) (by omega) Ht.out)
          rw [HT.out] at C7
          clear k6 C6 K5
          go_wp2_with fail
          (with_reducible refine C7.out.mono ?_); rintro e7 w7 ⟨A7, c7, rfl, k7⟩
          have K7 := Lib.hid k7
          have C8 := Lib.hid (ks_sameR k7 (A := A5) (A' := A) (ra := ds) (rb := ds) n n c5 c hn.out hn.out (by simp) (by simp))
          rw [show decide (ds = ds) = true from decide_eq_true rfl] at C8
          clear k7 C7 K6
          go_wp2_with fail
          (with_reducible refine C8.out.mono ?_); rintro e8 w8 ⟨rfl, k8⟩
          have HF := Lib.hid k8.bp.bel
          have CW := Lib.hid (bkWakes_any w8 (Ht.out.below k8.bp.bel Ht.out.pos))
          clear k8 C8 K7
          go_wp2_with fail
          (with_reducible refine CW.out.mono ?_); rintro e9 w9 ⟨rfl, hb9⟩
          have F9 := Lib.hid (HF.out.trans (hb9.mono HF.out.size))
          clear hb9 CW HF
          go_wp2_with fail
          exact HQ.out _ _ _ _ _ _ _ _ _ _ _ _ _ _ _ _ _ _ _ _ _ _ _ _ _ _ _ _ _ _ _ _ _ _ _ _ _ _ _ _ _ _ _ _ _ _ _ _ _ _ _ _ _ _ _ _ _ _ _ _ _ _ _ _ _ _ _ _ _ _ _ _ _ _ _ _ _ _ _ _ _ _ _ _ _ _ _ _ _ _ _ _ _ _ _ _ _ _ _ _ _ _ _ _ _ _ _ _ _ _ _ _ _ _ _ _ _ _ _ _ _ _ _ _ _ _ _ _ _ _ _ _ _ _ _ _ _ _ _ _ _ _ _ _ _ _ _ _ _ _ _ _ _ _ _ _ _ _ _ _ _ _ _ _ _ _ _ _ _ _ _ _ _ _ _ _ _ _ _ _ _ _ _ _ _ _ _ _ _ _ _ _ _ _ _ _ _ _ _ _ _ _ _ F9.out
        | false =>
          rw [q2] at z2
          have HA := Lib.hid (show anyL lv = false by unfold anyL; rw [q0, q1, q2]; rfl)
          clear q0 q1 q2
          have C5 := Lib.hid (ks_bget K4.out lv (some ⟨gl, 0, none⟩) 3 3 hlv.out.symm (K4.out.lv (g := gl) (lv := lv) (t := 4) (f := (0, 0)) (by simp) rfl (by rw [hlv.out]; omega)) (en : Int) (xn : Int) (by omega) (by omega) Ht.out)
          rw [HG.out.got.1, HA.out] at C5
          go_wp2_with fail
          (with_reducible refine C5.out.mono ?_); rintro e5 w5 ⟨A5, c5, rfl, k5⟩
          have K5 := Lib.hid k5
          have C6 := Lib.hid (ks_bget k5 lv (some ⟨gl, 0, none⟩) 3 3 hlv.out.symm (k5.lv (g := gl) (lv := lv) (t := 4) (f := (0, 0)) (by simp) rfl (by rw [hlv.out]; omega)) (e2 : Int) (xn : Int) (by omega) (by omega) Ht.out)
          rw [HO.out] at C6
          clear k5 C5 K4
          go_wp2_with fail
          (with_reducible refine C6.out.mono ?_); rintro e6 w6 ⟨A6, c6, rfl, k6⟩
          have K6 := Lib.hid k6
          have C7 := Lib.hid (ks_bget k6 lv (some ⟨gl, 0, none⟩) 3 3 hlv.out.symm (k6.lv (g := gl) (lv := lv) (t := 4) (f := (0, 0)) (by simp) rfl (by rw [hlv.out]; omega)) (en : Int) (x2 : Int) (by omega) (by omega) Ht.out)
          rw [HT.out] at C7
          clear k6 C6 K5
          go_wp2_with fail
          (with_reducible refine C7.out.mono ?_); rintro e7 w7 ⟨A7, c7, rfl, k7⟩
          have HF := Lib.hid k7.bp.bel
          have CW := Lib.hid (bkWakes_any w7 (Ht.out.below k7.bp.bel Ht.out.pos))
          clear k7 C7 K6
          go_wp2_with fail
          (with_reducible refine CW.out.mono ?_); rintro e9 w9 ⟨rfl, hb9⟩
          have F9 := Lib.hid (HF.out.trans (hb9.mono HF.out.size))
          clear hb9 CW HF
          go_wp2_with fail
          exact HQ.out _ _ _ _ _ _ _ _ _ _ _ _ _ _ _ _ _ _ _ _ _ _ _ _ _ _ _ _ _ _ _ _ _ _ _ _ _ _ _ _ _ _ _ _ _ _ _ _ _ _ _ _ _ _ _ _ _ _ _ _ _ _ _ _ _ _ _ _ _ _ _ _ _ _ _ _ _ _ _ _ _ _ _ _ _ _ _ _ _ _ _ _ _ _ _ _ _ _ _ _ _ _ _ _ _ _ _ _ _ _ _ _ _ _ _ _ _ _ _ _ _ _ _ _ _ _ _ _ _ _ _ _ _ _ _ _ _ _ _ _ _ _ _ _ _ _ _ _ _ _ _ _ _ _ _ _ _ _ _ _ _ _ _ _ _ _ _ _ _ _ _ _ _ _ _ _ _ _ _ _ _ _ _ _ _ _ _ _ _ _ _ _ _ _ _ _ _ _ _ _ _ _ _ F9.out
end Go.Proofs.YtjnemopocmhfkaaDoor
end
