/- SlotsBest: the best of all slots, looked for plainly. -/
import Derived.Test.YtiipdhmfdgbmiaaDoorSlotsBestOne
import Derived.Test.YtiipdhmfdgbmiaaDoorRefDec
set_option linter.unusedVariables false
set_option linter.unusedSimpArgs false
namespace Go.Proofs.YtiipdhmfdgbmiaaDoor
open Go.RowKit

theorem info_rsu : (Tryd.prog.info? 54).map (fun i => (i.zero, i.size, i.bytes)) = some (some (.agg (suL suZ).toArray), 11, 88) := by kernel_rfl
theorem size_rsus : (Tryd.prog.info? 59).map (·.size) = some 1 := by kernel_rfl
theorem wp_rowsR {o : Oper} {a : Act} {w w' : World} {v : Value} {K : Act → World → Prop} {Q : Exit → Act → World → Prop} (t : TypeId) (len : Nat) (parts : Array (Nat × Operand)) (ho : o.op = .buildSlice t len parts) (ps : Array (Nat × Value))
    (hps : parts.map (fun (i, x) => (i, a.eval x)) = ps) (hr : (Instr.buildSlice t len ps).run Tryd.prog w = .ok v w') (h : K (a.put o.dst v) w') : o.wp Tryd.prog a w K Q := by
  unfold Oper.wp execOp
  simp only [ho, Sem.run_bind, hps, hr, Result.andThen_ok]
  exact h
theorem built_rsu (s : Su) (w : World) : (Instr.buildSlice 59 1 #[(0, (.agg #[.int .i64 s.g, .int .i64 s.al, .int .i64 s.ad, .int .i64 s.ac, .int .i64 s.bl, .int .i64 s.bd, .int .i64 s.bc, .bool s.r, .int .i64 s.wi, .int .i64 s.ep, .int .i64 s.ou]))]).run Tryd.prog w = .ok (.slice (some ⟨w.heap.size, 0, none⟩) 1 1) (w.alloc (.cells (suL s).toArray 54)) := by kernel_rfl
structure RSt (wS w : World) (N : Bch) (F : Nat → Value) (i j : Nat) (s : Su) : Prop where
  bel : Below wS.heap.size wS w
  bst : w.heap[wS.heap.size]? = some (.cells (suL s).toArray 54 (0, 0))
  all : w.heap[wS.heap.size + 1]? = some (.cells (rowOf F 4).toArray 60 (0, 0))
  own : ∀ k, k < 4 → w.ownsRow (wS.heap.size + 2) 54 11 (F k) (cnts N i j k).length (sucs (cnts N i j k))
  ap : ∀ j k, j < 4 → k < 4 → j ≠ k → ∀ q, (F j).ownBlock = some q → (F k).ownBlock ≠ some q
section
variable {wS w w' : World} {N : Bch} {F : Nat → Value} {i j : Nat} {s : Su}
theorem RSt.size (h : RSt wS w N F i j s) : wS.heap.size + 2 ≤ w.heap.size := by have := (Array.getElem?_eq_some_iff.1 h.all).1; omega
theorem RSt.below (h : RSt wS w N F i j s) (hb : Below w.heap.size w w') : RSt wS w' N F i j s := by
  have hz := h.size
  exact ⟨h.bel.trans (hb.mono (by omega)), (hb.block _ (by omega)).trans h.bst, (hb.block _ (by omega)).trans h.all, fun k hk => own_heap (h.own k hk) fun q hq => hb.block q ((h.own k hk).lt q hq).2, h.ap⟩
theorem RSt.setB (h : RSt wS w N F i j s) {s' : Su} (hg : w.grownBy w' (some wS.heap.size)) (hb : w'.heap[wS.heap.size]? = some (.cells (suL s').toArray 54 (0, 0))) : RSt wS w' N F i j s' := by
  have hz := h.size
  refine ⟨h.bel.grown hg (by omega) (fun j e => by injection e with e; omega), hb, (hg.block _ (by omega) (fun e => by injection e with e; omega)).trans h.all, fun k hk => own_heap (h.own k hk) fun q hq => hg.block q ((h.own k hk).lt q hq).2 (fun e => by injection e with e; have := ((h.own k hk).lt q hq).1; omega), h.ap⟩
theorem RSt.turn (h : RSt wS w N F i j s) {i' j' : Nat} (hc : ∀ k, k < 4 → cnts N i' j' k = cnts N i j k) : RSt wS w N F i' j' s := ⟨h.bel, h.bst, h.all, fun k hk => by rw [hc k hk]; exact h.own k hk, h.ap⟩
theorem RSt.skip (h : RSt wS w N F i j s) (hs : slotL (N.D i) j = []) : RSt wS w N F i (j + 1) s := h.turn fun k _ => by
  by_cases e : k = i
  · subst e; rw [cnts_at, cnts_at, dTo_succ, hs, List.append_nil]
  · exact cnts_step N i j k e
theorem RSt.next (h : RSt wS w N F i 2 s) : RSt wS w N F (i + 1) 0 s := h.turn fun k _ => cnts_next N i k
/-- One more in the row of disk i. -/
theorem RSt.push (h : RSt wS w N F i j s) (hi : i < 4) {x : Su} (hx : slotL (N.D i) j = [x]) {w1 w2 w3 : World} {g cap : Nat} (hB : Below w.heap.size w w1) (hg2 : w1.grownBy w2 (F i).ownBlock)
    (hown : w2.ownsRow (wS.heap.size + 2) 54 11 (.slice (some ⟨g, 0, none⟩) ((dTo (N.D i) j).length + 1) cap) ((dTo (N.D i) j).length + 1) (sucs (dTo (N.D i) j) ++ suL x)) (hat : (F i).ownBlock = some g ∨ g = w1.heap.size)
    (hg3 : w2.grownBy w3 (some (wS.heap.size + 1))) (h3 : w3.heap[wS.heap.size + 1]? = some (.cells (rowOf (upd F i (.slice (some ⟨g, 0, none⟩) ((dTo (N.D i) j).length + 1) cap)) 4).toArray 60 (0, 0))) :
    RSt wS w3 N (upd F i (.slice (some ⟨g, 0, none⟩) ((dTo (N.D i) j).length + 1) cap)) i (j + 1) s := by
  have hz := h.size
  have h1 := h.below hB
  have hz1 := h1.size
  have hgB := hown.lt g rfl
  have hoi : ∀ q, (F i).ownBlock = some q → wS.heap.size + 2 ≤ q ∧ q < w1.heap.size := fun q hq => (h1.own i hi).lt q hq
  have b2 : Below wS.heap.size wS w2 := h1.bel.grown hg2 (by omega) (fun q hq => by have := (hoi q hq).1; omega)
  have hz2 := hg2.size
  refine ⟨b2.grown hg3 (by omega) (fun q e => by injection e with e; omega), ?_, h3, fun k hk => ?_, fun a c ha hc hac q hq => ?_⟩
  · exact (hg3.block _ (by omega) (fun e => by injection e with e; omega)).trans ((hg2.block _ (by omega) (fun e => by have := (hoi _ e.symm).1; omega)).trans h1.bst)
  · by_cases e : k = i
    · subst e
      rw [upd_same, cnts_at, dTo_succ, hx, sucs_snoc, List.length_append]
      exact own_heap hown fun q hq => hg3.block q (hown.lt q hq).2 (fun e => by injection e with e; have := (hown.lt q hq).1; omega)
    · rw [upd_other _ _ e, cnts_step N i j k e]
      have hok := h1.own k hk
      exact own_heap hok fun q hq => (hg3.block q (Nat.lt_of_lt_of_le (hok.lt q hq).2 hz2) (fun e => by injection e with e; have := (hok.lt q hq).1; omega)).trans (hg2.block q (hok.lt q hq).2 (fun e' => h.ap k i hk hi e q hq e'.symm))
  · by_cases ea : a = i
    · subst ea
      rw [upd_same] at hq
      rw [upd_other _ _ (fun e => hac e.symm)]
      have hq' : g = q := by injection hq
      subst hq'
      rcases hat with e | e
      · exact h.ap a c ha hc hac g e
      · intro e'; have := ((h1.own c hc).lt g e').2; omega
    · rw [upd_other _ _ ea] at hq
      by_cases ec : c = i
      · subst ec
        rw [upd_same]
        intro e'
        have e'' : g = q := by injection e'
        subst e''
        rcases hat with e | e
        · exact h.ap a c ha hc hac g hq e
        · have := ((h1.own a ha).lt g hq).2; omega
      · rw [upd_other _ _ ec]; exact h.ap a c ha hc hac q hq
end
set_option maxRecDepth 100000 in
set_option maxHeartbeats 3200000 in
theorem sxAb {wS : World} {B b d : Nat} {H : BH} {N : Bch} {aa : Nat} {fo : Bool} {F : Nat → Value} {w : World} (u0 u1 u2 u4 u5 u6 u7 u8 u9 u10 u11 u12 u13 u14 u20 u21 u22 u23 u24 u25 u26 u27 u28 u29 u30 u31 u32 u33 u34 u35 u36 u37 u38 u39 u40 u41 u42 u43 u44 u45 u46 u47 u48 u49 u50 u51 u52 u53 u54 u55 u56 u57 u58 u59 u60 u61 u62 u63 u64 u65 u66 u67 u68 u69 u70 u71 u72 u73 u74 u75 u76 u77 u78 u79 u80 u81 u82 u83 u84 u85 u86 u87 u88 u89 u90 u91 u92 u93 u94 u95 u96 u97 u98 u99 u100 u101 u102 u103 u104 u105 u106 u107 u108 u109 u110 u111 u112 u113 u114 u115 u116 u117 u118 u119 u120 u121 u122 u123 u124 u125 u126 u127 u128 u129 u130 u131 u132 u133 u134 u135 u136 u137 u138 u139 u140 u141 u142 u143 u144 u145 u146 u147 u148 u149 u150 u151 u152 u153 u154 u155 u156 u157 u158 u159 u160 u161 u162 u163 u164 u165 u166 u167 u168 u169 u170 u171 u172 u173 u174 u175 u176 u177 u178 u179 u180 u181 u182 u183 u184 u185 u186 u187 u188 u189 u190 u191 u192 u193 u194 u195 u196 u197 u198 u199 u200 u201 u202 u203 u204 u205 u206 u207 u208 u209 u210 u211 u212 u213 u214 u215 u216 u217 u218 u219 u220 u221 u222 u223 u224 u225 u226 u227 u228 u229 u230 u231 u232 u233 u234 u235 u236 u237 u238 u239 u240 u241 u242 u243 u244 u245 u246 u247 u248 u249 u250 u251 u252 u253 u254 u255 u256 u257 u258 u259 u260 u261 u262 u263 u264 u265 u266 u267 u268 u269 u270 u271 u272 u273 u274 u275 u276 u277 u278 : Value) (K : Act → World → Prop) (Q0 : Exit → Act → World → Prop) (hA : BAt wS B b H N) (hdn : N.down = false) (hn : N.n = 4) (hok : ∀ j, j < 4 → (N.D j).Ok) (hd : d < 4) (hI : (aa ≤ 2 ∧ RSt wS w N F d aa (bestAt N d aa) ∧ fo = decide ((bestAt N d aa).g ≠ 0)))
    (hK : ∀ (v20 v21 v22 v23 v174 v175 v176 v177 v178 v179 v180 v181 v182 v183 v184 v185 v186 v187 v188 v189 v190 v191 v192 v193 v194 v195 v196 v197 v198 v199 v200 v201 v202 v203 v204 v205 v206 v207 v208 v209 v210 : Value) (fo2 : Bool) (F2 : Nat → Value) (V : World), ((aa + 1) ≤ 2 ∧ RSt wS V N F2 d (aa + 1) (bestAt N d (aa + 1)) ∧ fo2 = decide ((bestAt N d (aa + 1)).g ≠ 0)) → 2 - (aa + 1) < 2 - aa → K ⟨List.toArray (u0 :: u1 :: u2 :: (.pointer (some ⟨b, 0, none⟩)) :: u4 :: u5 :: u6 :: u7 :: u8 :: u9 :: u10 :: u11 :: u12 :: u13 :: u14 :: (.pointer (some ⟨wS.heap.size, 0, none⟩)) :: (.bool fo2) :: (.pointer (some ⟨wS.heap.size + 1, 0, none⟩)) :: (.int .i64 ((d : Nat) : Int)) :: (.int .i64 (((aa + 1) : Nat) : Int)) :: v20 :: v21 :: v22 :: v23 :: u24 :: u25 :: u26 :: u27 :: u28 :: u29 :: u30 :: u31 :: u32 :: u33 :: u34 :: u35 :: u36 :: u37 :: u38 :: u39 :: u40 :: u41 :: u42 :: u43 :: u44 :: u45 :: u46 :: u47 :: u48 :: u49 :: u50 :: u51 :: u52 :: u53 :: u54 :: u55 :: u56 :: u57 :: u58 :: u59 :: u60 :: u61 :: u62 :: u63 :: u64 :: u65 :: u66 :: u67 :: u68 :: u69 :: u70 :: u71 :: u72 :: u73 :: u74 :: u75 :: u76 :: u77 :: u78 :: u79 :: u80 :: u81 :: u82 :: u83 :: u84 :: u85 :: u86 :: u87 :: u88 :: u89 :: u90 :: u91 :: u92 :: u93 :: u94 :: u95 :: u96 :: u97 :: u98 :: u99 :: u100 :: u101 :: u102 :: u103 :: u104 :: u105 :: u106 :: u107 :: u108 :: u109 :: u110 :: u111 :: u112 :: u113 :: u114 :: u115 :: u116 :: u117 :: u118 :: u119 :: u120 :: u121 :: u122 :: u123 :: u124 :: u125 :: u126 :: u127 :: u128 :: u129 :: u130 :: u131 :: u132 :: u133 :: u134 :: u135 :: u136 :: u137 :: u138 :: u139 :: u140 :: u141 :: u142 :: u143 :: u144 :: u145 :: u146 :: u147 :: u148 :: u149 :: u150 :: u151 :: u152 :: u153 :: u154 :: u155 :: u156 :: u157 :: u158 :: u159 :: u160 :: u161 :: u162 :: u163 :: u164 :: u165 :: u166 :: u167 :: u168 :: u169 :: u170 :: u171 :: u172 :: u173 :: v174 :: v175 :: v176 :: v177 :: v178 :: v179 :: v180 :: v181 :: v182 :: v183 :: v184 :: v185 :: v186 :: v187 :: v188 :: v189 :: v190 :: v191 :: v192 :: v193 :: v194 :: v195 :: v196 :: v197 :: v198 :: v199 :: v200 :: v201 :: v202 :: v203 :: v204 :: v205 :: v206 :: v207 :: v208 :: v209 :: v210 :: u211 :: u212 :: u213 :: u214 :: u215 :: u216 :: u217 :: u218 :: u219 :: u220 :: u221 :: u222 :: u223 :: u224 :: u225 :: u226 :: u227 :: u228 :: u229 :: u230 :: u231 :: u232 :: u233 :: u234 :: u235 :: u236 :: u237 :: u238 :: u239 :: u240 :: u241 :: u242 :: u243 :: u244 :: u245 :: u246 :: u247 :: u248 :: u249 :: u250 :: u251 :: u252 :: u253 :: u254 :: u255 :: u256 :: u257 :: u258 :: u259 :: u260 :: u261 :: u262 :: u263 :: u264 :: u265 :: u266 :: u267 :: u268 :: u269 :: u270 :: u271 :: u272 :: u273 :: u274 :: u275 :: u276 :: u277 :: u278 :: []), []⟩ V)
    (hX : ∀ (v20 v21 v22 v23 v174 v175 v176 v177 v178 v179 v180 v181 v182 v183 v184 v185 v186 v187 v188 v189 v190 v191 v192 v193 v194 v195 v196 v197 v198 v199 v200 v201 v202 v203 v204 v205 v206 v207 v208 v209 v210 : Value), (aa = 2) → Q0 (.exit 7) ⟨List.toArray (u0 :: u1 :: u2 :: (.pointer (some ⟨b, 0, none⟩)) :: u4 :: u5 :: u6 :: u7 :: u8 :: u9 :: u10 :: u11 :: u12 :: u13 :: u14 :: (.pointer (some ⟨wS.heap.size, 0, none⟩)) :: (.bool fo) :: (.pointer (some ⟨wS.heap.size + 1, 0, none⟩)) :: (.int .i64 ((d : Nat) : Int)) :: (.int .i64 ((aa : Nat) : Int)) :: v20 :: v21 :: v22 :: v23 :: u24 :: u25 :: u26 :: u27 :: u28 :: u29 :: u30 :: u31 :: u32 :: u33 :: u34 :: u35 :: u36 :: u37 :: u38 :: u39 :: u40 :: u41 :: u42 :: u43 :: u44 :: u45 :: u46 :: u47 :: u48 :: u49 :: u50 :: u51 :: u52 :: u53 :: u54 :: u55 :: u56 :: u57 :: u58 :: u59 :: u60 :: u61 :: u62 :: u63 :: u64 :: u65 :: u66 :: u67 :: u68 :: u69 :: u70 :: u71 :: u72 :: u73 :: u74 :: u75 :: u76 :: u77 :: u78 :: u79 :: u80 :: u81 :: u82 :: u83 :: u84 :: u85 :: u86 :: u87 :: u88 :: u89 :: u90 :: u91 :: u92 :: u93 :: u94 :: u95 :: u96 :: u97 :: u98 :: u99 :: u100 :: u101 :: u102 :: u103 :: u104 :: u105 :: u106 :: u107 :: u108 :: u109 :: u110 :: u111 :: u112 :: u113 :: u114 :: u115 :: u116 :: u117 :: u118 :: u119 :: u120 :: u121 :: u122 :: u123 :: u124 :: u125 :: u126 :: u127 :: u128 :: u129 :: u130 :: u131 :: u132 :: u133 :: u134 :: u135 :: u136 :: u137 :: u138 :: u139 :: u140 :: u141 :: u142 :: u143 :: u144 :: u145 :: u146 :: u147 :: u148 :: u149 :: u150 :: u151 :: u152 :: u153 :: u154 :: u155 :: u156 :: u157 :: u158 :: u159 :: u160 :: u161 :: u162 :: u163 :: u164 :: u165 :: u166 :: u167 :: u168 :: u169 :: u170 :: u171 :: u172 :: u173 :: v174 :: v175 :: v176 :: v177 :: v178 :: v179 :: v180 :: v181 :: v182 :: v183 :: v184 :: v185 :: v186 :: v187 :: v188 :: v189 :: v190 :: v191 :: v192 :: v193 :: v194 :: v195 :: v196 :: v197 :: v198 :: v199 :: v200 :: v201 :: v202 :: v203 :: v204 :: v205 :: v206 :: v207 :: v208 :: v209 :: v210 :: u211 :: u212 :: u213 :: u214 :: u215 :: u216 :: u217 :: u218 :: u219 :: u220 :: u221 :: u222 :: u223 :: u224 :: u225 :: u226 :: u227 :: u228 :: u229 :: u230 :: u231 :: u232 :: u233 :: u234 :: u235 :: u236 :: u237 :: u238 :: u239 :: u240 :: u241 :: u242 :: u243 :: u244 :: u245 :: u246 :: u247 :: u248 :: u249 :: u250 :: u251 :: u252 :: u253 :: u254 :: u255 :: u256 :: u257 :: u258 :: u259 :: u260 :: u261 :: u262 :: u263 :: u264 :: u265 :: u266 :: u267 :: u268 :: u269 :: u270 :: u271 :: u272 :: u273 :: u274 :: u275 :: u276 :: u277 :: u278 :: []), []⟩ w) :
    Code.wp Tryd.prog (sub [1, 1, 1, 1, 1, 1, 0, 1, 0, 0, 1, 0, 0, 1, 0, 0] codeSX) (Exit.then K Q0) ⟨List.toArray (u0 :: u1 :: u2 :: (.pointer (some ⟨b, 0, none⟩)) :: u4 :: u5 :: u6 :: u7 :: u8 :: u9 :: u10 :: u11 :: u12 :: u13 :: u14 :: (.pointer (some ⟨wS.heap.size, 0, none⟩)) :: (.bool fo) :: (.pointer (some ⟨wS.heap.size + 1, 0, none⟩)) :: (.int .i64 ((d : Nat) : Int)) :: (.int .i64 ((aa : Nat) : Int)) :: u20 :: u21 :: u22 :: u23 :: u24 :: u25 :: u26 :: u27 :: u28 :: u29 :: u30 :: u31 :: u32 :: u33 :: u34 :: u35 :: u36 :: u37 :: u38 :: u39 :: u40 :: u41 :: u42 :: u43 :: u44 :: u45 :: u46 :: u47 :: u48 :: u49 :: u50 :: u51 :: u52 :: u53 :: u54 :: u55 :: u56 :: u57 :: u58 :: u59 :: u60 :: u61 :: u62 :: u63 :: u64 :: u65 :: u66 :: u67 :: u68 :: u69 :: u70 :: u71 :: u72 :: u73 :: u74 :: u75 :: u76 :: u77 :: u78 :: u79 :: u80 :: u81 :: u82 :: u83 :: u84 :: u85 :: u86 :: u87 :: u88 :: u89 :: u90 :: u91 :: u92 :: u93 :: u94 :: u95 :: u96 :: u97 :: u98 :: u99 :: u100 :: u101 :: u102 :: u103 :: u104 :: u105 :: u106 :: u107 :: u108 :: u109 :: u110 :: u111 :: u112 :: u113 :: u114 :: u115 :: u116 :: u117 :: u118 :: u119 :: u120 :: u121 :: u122 :: u123 :: u124 :: u125 :: u126 :: u127 :: u128 :: u129 :: u130 :: u131 :: u132 :: u133 :: u134 :: u135 :: u136 :: u137 :: u138 :: u139 :: u140 :: u141 :: u142 :: u143 :: u144 :: u145 :: u146 :: u147 :: u148 :: u149 :: u150 :: u151 :: u152 :: u153 :: u154 :: u155 :: u156 :: u157 :: u158 :: u159 :: u160 :: u161 :: u162 :: u163 :: u164 :: u165 :: u166 :: u167 :: u168 :: u169 :: u170 :: u171 :: u172 :: u173 :: u174 :: u175 :: u176 :: u177 :: u178 :: u179 :: u180 :: u181 :: u182 :: u183 :: u184 :: u185 :: u186 :: u187 :: u188 :: u189 :: u190 :: u191 :: u192 :: u193 :: u194 :: u195 :: u196 :: u197 :: u198 :: u199 :: u200 :: u201 :: u202 :: u203 :: u204 :: u205 :: u206 :: u207 :: u208 :: u209 :: u210 :: u211 :: u212 :: u213 :: u214 :: u215 :: u216 :: u217 :: u218 :: u219 :: u220 :: u221 :: u222 :: u223 :: u224 :: u225 :: u226 :: u227 :: u228 :: u229 :: u230 :: u231 :: u232 :: u233 :: u234 :: u235 :: u236 :: u237 :: u238 :: u239 :: u240 :: u241 :: u242 :: u243 :: u244 :: u245 :: u246 :: u247 :: u248 :: u249 :: u250 :: u251 :: u252 :: u253 :: u254 :: u255 :: u256 :: u257 :: u258 :: u259 :: u260 :: u261 :: u262 :: u263 :: u264 :: u265 :: u266 :: u267 :: u268 :: u269 :: u270 :: u271 :: u272 :: u273 :: u274 :: u275 :: u276 :: u277 :: u278 :: []), []⟩ w := by
  have HK := Lib.hid hK
  have HX := Lib.hid hX
  clear hK hX
  conv => arg 2; whnf
  obtain ⟨ha, hS, hfo⟩ := hI
  by_cases hlt : aa < 2
  · have a0 : (0 : Int) ≤ (aa : Int) := by omega
    have a1 : (aa : Int) < 2 := by omega
    have hpw : N.powE (d : Int) = 0 := Bch.powE_ok (Bch.pickE_ok (by omega) (by rw [hn]; omega)) hdn
    have hrd := Bch.readE_dsk (aa : Int) hpw
    have hat : N.at_ (d : Int) = N.D d := rfl
    rw [hat] at hrd
    have C1 := bch_read_any B b H N w (hA.below hS.bel) (d : Int) (aa : Int) ⟨by omega, by omega⟩ ⟨by omega, by omega⟩
    rw [hrd.1, hrd.2] at C1
    have HS := Lib.hid hS
    have Hfo := Lib.hid hfo
    have Hok := Lib.hid (hok d hd)
    have hz := hS.size
    clear hpw hrd hat HX hS hfo hA hdn hok
    unfold ptr at C1
    cases hf : (N.D d).f with
    | true =>
      rw [hf, reachE_fail] at C1
      have Hsl := Lib.hid (slotL_f hf aa)
      have C1 := Lib.hid C1
      clear hf
      go_wp2_with fail
      refine C1.out.mono ?_
      rintro e w3 ⟨v3, rfl, _, hb3⟩
      have R3 := Lib.hid ((HS.out.below hb3).skip Hsl.out)
      clear hb3
      go_wp2_with fail
      exact HK.out _ _ _ _ _ _ _ _ _ _ _ _ _ _ _ _ _ _ _ _ _ _ _ _ _ _ _ _ _ _ _ _ _ _ _ _ _ _ _ _ _ fo F _ ⟨by omega, by rw [bestAt_none Hsl.out]; exact R3.out, by rw [bestAt_none Hsl.out]; exact Hfo.out⟩ (by omega)
    | false =>
      rw [hf, reachE_ok (by omega) (by omega)] at C1
      have hrr : (N.D d).readE (aa : Int) = secAt (N.D d).now aa := by unfold Dsk.readE; rw [hf, if_pos (reachE_ok (by omega) (by omega))]; rfl
      rw [hrr] at C1
      have C1 := Lib.hid C1
      have H32 := Lib.hid (secAt_len (L := (N.D d).now) (k := aa) (by rw [Hok.out.now]; omega))
      have Hsy := Lib.hid (slotL_yes (D := N.D d) (k := aa) hf)
      have Hsn := Lib.hid (slotL_no (D := N.D d) (k := aa) hf)
      have Hin := Lib.hid (decS_in (secAt (N.D d).now aa))
      clear hrr hf
      generalize secAt (N.D d).now aa = X at C1 H32 Hsy Hsn Hin
      go_wp2_with fail
      refine C1.out.mono ?_
      rintro e w3 ⟨v3, rfl, ho3, hb3⟩
      obtain ⟨A3, c3, rfl, hc3, hr3⟩ := ho3.rd
      rw [H32.out] at hc3 ⊢
      have R3 := Lib.hid (HS.out.below hb3)
      have CD := Lib.hid (refDecode_any A3 32 c3 X w3 H32.out.symm hc3 hr3)
      clear ho3 hb3 hr3 C1
      go_wp2_with fail
      refine CD.out.mono ?_
      rintro e w4 ⟨x, hx, rfl, hb4⟩
      have R4 := Lib.hid (R3.out.below hb4)
      have Hx := Lib.hid hx
      clear hx hb4 CD
      cases hdo : decO X with
      | false =>
        have Hsl := Lib.hid (Hsn.out hdo)
        clear hdo
        go_wp2_with (first
          | (refine wpList_store_blk rfl 54 _ _ (by rfl) w4.heap.size 0 (.agg (suL x).toArray) (by rfl) (by rfl) (suL suZ) 54 (heap_alloc_new _ _) (suL x) rfl 11 rfl (by kernel_rfl) (Nat.le_refl 11) (suL_one _) (suL x) (by rfl) ?_; intro w5 h5 g5
             have R5 := Lib.hid ((R4.out.below ((below1 w4 _).grown g5 (by simp) (fun j e => by injection e with e; omega))).skip Hsl.out)
             clear h5 g5))
        exact HK.out _ _ _ _ _ _ _ _ _ _ _ _ _ _ _ _ _ _ _ _ _ _ _ _ _ _ _ _ _ _ _ _ _ _ _ _ _ _ _ _ _ fo F _ ⟨by omega, by rw [bestAt_none Hsl.out]; exact R5.out, by rw [bestAt_none Hsl.out]; exact Hfo.out⟩ (by omega)
      | true =>
        have Hsl := Lib.hid (show slotL (N.D d) aa = [x] by rw [Hsy.out hdo, Hx.out])
        have Hxi := Lib.hid (show SuIn x by rw [Hx.out]; exact Hin.out hdo)
        have Hbp := Lib.hid (bestAt_some Hsl.out)
        have Hbi := Lib.hid (su64_in (bestAt_in N d aa)).1
        have Hbz := Lib.hid (bestAt_in N d aa)
        clear hdo Hin Hsy Hsn Hx
        generalize bestAt N d aa = bs at *
        obtain ⟨iw, hiw, hzz⟩ := Option.map_eq_some_iff.1 info_rsu
        simp only [Prod.mk.injEq] at hzz
        have Hzw := Lib.hid hzz.1
        have Hsw := Lib.hid hzz.2.1
        have Hbw := Lib.hid hzz.2.2
        have Hiw := Lib.hid hiw
        clear hzz hiw
        have hon := R4.out.own d hd
        rw [cnts_at] at hon
        obtain ⟨P, pc, hFd, hpc, _⟩ := own_form hon
        have Hm2 := Lib.hid (show (dTo (N.D d) aa).length ≤ 2 from Nat.le_trans (dTo_len _ _) (by omega))
        have HPush := Lib.hid (fun (w1 w2 w3 : World) (g cap : Nat) (hB : Below w4.heap.size w4 w1) => fun hg2 hown hat hg3 h3 => R4.out.push hd Hsl.out (w1 := w1) (w2 := w2) (w3 := w3) (g := g) (cap := cap) hB hg2 hown hat hg3 h3)
        rw [hFd] at HPush hon
        generalize hm : (dTo (N.D d) aa).length = m at *
        generalize hLs : dTo (N.D d) aa = L at *
        have HFd := Lib.hid hFd
        clear hFd hm hLs
        have d0 : (0 : Int) ≤ (d : Int) := by omega
        have d1 : (d : Int) < 4 := by omega
        have hz4 := R4.out.size
        have Hcd := Lib.hid (show ∀ V : World, V.heap[wS.heap.size + 1]? = some (.cells (rowOf F 4).toArray 60 (0, 0)) → V.cell? ⟨wS.heap.size + 1, d, none⟩ = some (.slice P m pc) from fun V hV => by rw [cell_of_row _ _ d _ _ _ hV, List.getElem?_toArray, rowOf_get _ hd, HFd.out])
        have Hon := Lib.hid hon
        clear hon
        go_wp2_with (first
          | (refine wpList_store_blk rfl 54 _ _ (by rfl) w4.heap.size 0 (.agg (suL x).toArray) (by rfl) (by rfl) (suL suZ) 54 (heap_alloc_new _ _) (suL x) rfl 11 rfl (by kernel_rfl) (Nat.le_refl 11) (suL_one _) (suL x) (by rfl) ?_; intro w5 h5 g5
             have B5 := Lib.hid (show Below w4.heap.size w4 w5 from (below1 w4 _).grown g5 (by simp) (fun j e => by injection e with e; omega))
             have HS5 := Lib.hid (show w5.heap[wS.heap.size + 1]? = some (.cells (rowOf F 4).toArray 60 (0, 0)) ∧ w5.heap[w4.heap.size]? = some (.cells (suL x).toArray 54 (0, 0)) from ⟨(B5.out.block _ (by omega)).trans R4.out.all, h5⟩)
             clear h5 g5))
        have hz5 : w4.heap.size < w5.heap.size := (Array.getElem?_eq_some_iff.1 HS5.out.2).1
        have O5 := own_heap Hon.out fun q hq => B5.out.block q (Hon.out.lt q hq).2
        have O6 := Lib.hid (show (w5.drew.alloc (.cells (suL x).toArray 54)).ownsRow (wS.heap.size + 2) 54 11 (.slice P m pc) m (sucs L) from own_heap O5 fun q hq => heap_alloc_old w5.drew _ (O5.lt q hq).2)
        have HS6 := Lib.hid (show (w5.drew.alloc (.cells (suL x).toArray 54)).heap[wS.heap.size + 1]? = some (.cells (rowOf F 4).toArray 60 (0, 0)) ∧ (w5.drew.alloc (.cells (suL x).toArray 54)).heap[w4.heap.size]? = some (.cells (suL x).toArray 54 (0, 0)) from ⟨(heap_alloc_old w5.drew _ (by show _ < w5.heap.size; omega)).trans HS5.out.1, (heap_alloc_old w5.drew _ hz5).trans HS5.out.2⟩)
        have Hz6 := Lib.hid (show wS.heap.size + 2 ≤ (w5.drew.alloc (.cells (suL x).toArray 54)).heap.size by simp; omega)
        have hobl : ∀ q, (Value.slice P m pc).ownBlock = some q → wS.heap.size + 2 ≤ q ∧ q < w4.heap.size := fun q hq => Hon.out.lt q hq
        have H7 := Lib.hid (show ∀ w7, (w5.drew.alloc (.cells (suL x).toArray 54)).grownBy w7 (Value.slice P m pc).ownBlock → w7.heap[wS.heap.size + 1]? = some (.cells (rowOf F 4).toArray 60 (0, 0)) ∧ w7.heap[w4.heap.size]? = some (.cells (suL x).toArray 54 (0, 0)) from fun w7 hg => ⟨(hg.block _ (by simp; omega) (fun e => by have := (hobl _ e.symm).1; omega)).trans HS6.out.1, (hg.block _ (by simp; omega) (fun e => by have := (hobl _ e.symm).2; omega)).trans HS6.out.2⟩)
        have HPush := Lib.hid (fun (w2 w3 : World) (g cap : Nat) => HPush.out (w5.drew.alloc (.cells (suL x).toArray 54)) w2 w3 g cap ((B5.out.drew).alloc (by simp; omega) _))
        clear hobl O5 Hon B5
        refine wp_region_noPanic (region_ord 7 [] (fun V => V.heap[wS.heap.size + 1]? = some (.cells (rowOf F 4).toArray 60 (0, 0)) ∧ V.heap[w4.heap.size]? = some (.cells (suL x).toArray 54 (0, 0))) (by kernel_rfl) (by kernel_rfl) (fun _ _ _ _ _ h => h) fun R => ?_)
        change anyI _ _ _ _ _ _ 9 _ _ w5.drew
        have HS0 := Lib.hid (show (fun V => V.heap[wS.heap.size + 1]? = some (.cells (rowOf F 4).toArray 60 (0, 0)) ∧ V.heap[w4.heap.size]? = some (.cells (suL x).toArray 54 (0, 0))) w5.drew from HS5.out)
        refine' anyI_take R 0 rfl (v := ?_) (by kernel_rfl) (by rfl) (fun V hV => ?hy) HS0.out ?_
        case hy => ((try dsimp only at hV); have hc := Hcd.out V hV.1; obtain ⟨q0, q1, q2, q3, q4, q5, q6, q7, q8, q9, q10⟩ := sat_block hV.2; go_simp; try with_reducible rfl)
        try simp only [Act.put, List.getElem_toArray, List.getElem_cons_succ, List.getElem_cons_zero, List.setIfInBounds_toArray, List.set_cons_zero, List.set_cons_succ]
        refine' anyI_take R 1 rfl (v := ?_) (by kernel_rfl) (by rfl) (fun V hV => ?hy) HS0.out ?_
        case hy => ((try dsimp only at hV); have hc := Hcd.out V hV.1; obtain ⟨q0, q1, q2, q3, q4, q5, q6, q7, q8, q9, q10⟩ := sat_block hV.2; go_simp; try with_reducible rfl)
        try simp only [Act.put, List.getElem_toArray, List.getElem_cons_succ, List.getElem_cons_zero, List.setIfInBounds_toArray, List.set_cons_zero, List.set_cons_succ]
        refine' anyI_take R 2 rfl (v := ?_) (by kernel_rfl) (by rfl) (fun V hV => ?hy) HS0.out ?_
        case hy => ((try dsimp only at hV); have hc := Hcd.out V hV.1; obtain ⟨q0, q1, q2, q3, q4, q5, q6, q7, q8, q9, q10⟩ := sat_block hV.2; go_simp; try with_reducible rfl)
        try simp only [Act.put, List.getElem_toArray, List.getElem_cons_succ, List.getElem_cons_zero, List.setIfInBounds_toArray, List.set_cons_zero, List.set_cons_succ]
        refine' anyI_take R 3 rfl (v := ?_) (by kernel_rfl) (by rfl) (fun V hV => ?hy) HS0.out ?_
        case hy => ((try dsimp only at hV); have hc := Hcd.out V hV.1; obtain ⟨q0, q1, q2, q3, q4, q5, q6, q7, q8, q9, q10⟩ := sat_block hV.2; go_simp; try with_reducible rfl)
        try simp only [Act.put, List.getElem_toArray, List.getElem_cons_succ, List.getElem_cons_zero, List.setIfInBounds_toArray, List.set_cons_zero, List.set_cons_succ]
        refine' anyI_take R 4 rfl (v := ?_) (by kernel_rfl) (by rfl) (fun V hV => ?hy) HS0.out ?_
        case hy => ((try dsimp only at hV); have hc := Hcd.out V hV.1; obtain ⟨q0, q1, q2, q3, q4, q5, q6, q7, q8, q9, q10⟩ := sat_block hV.2; go_simp; try with_reducible rfl)
        try simp only [Act.put, List.getElem_toArray, List.getElem_cons_succ, List.getElem_cons_zero, List.setIfInBounds_toArray, List.set_cons_zero, List.set_cons_succ]
        refine anyI_one 5 (by kernel_rfl) rfl ?_
        try simp only [List.getElem_toArray, List.getElem_cons_succ, List.getElem_cons_zero]
        refine opE_step ?_
        rw [if_pos (by rfl)]
        refine wp_rowsR 59 1 _ rfl #[(0, (.agg #[.int .i64 x.g, .int .i64 x.al, .int .i64 x.ad, .int .i64 x.ac, .int .i64 x.bl, .int .i64 x.bd, .int .i64 x.bc, .bool x.r, .int .i64 x.wi, .int .i64 x.ep, .int .i64 x.ou]))] (by first | rfl | kernel_rfl) (built_rsu x w5.drew) ?_
        refine ⟨HS6.out, ?_⟩
        try simp only [Act.put, List.getElem_toArray, List.getElem_cons_succ, List.getElem_cons_zero, List.setIfInBounds_toArray, List.set_cons_zero, List.set_cons_succ]
        refine anyI_one 6 (by kernel_rfl) rfl ?_
        try simp only [List.getElem_toArray, List.getElem_cons_succ, List.getElem_cons_zero]
        refine opE_step ?_
        refine step_append_lies _ (by rfl) _ _ _ (by rfl) (wS.heap.size + 2) 54 iw _ 11 88 Tryd.underlying59 Hiw.out Hzw.out Hsw.out Hbw.out (by rfl) (by omega) (.slice P m pc) m (sucs L) (by rfl) O6.out ⟨w5.heap.size, 0, none⟩ 1 1 (suL x) (by rfl) (by rfl) (World.news_of_block (heap_alloc_new w5.drew _)) (suL_one x) (by omega) (by have := Hm2.out; unfold maxLen; omega) (by have := Hm2.out; omega) Hz6.out _ rfl ?_
        intro g7 cap7 w7 hown7 hgrow7 hat7 hlt7
        have Hown7 := Lib.hid hown7
        have Hgrow7 := Lib.hid hgrow7
        have Hat7 := Lib.hid hat7
        have HS7 := Lib.hid (H7.out w7 hgrow7)
        clear hown7 hgrow7 hat7
        refine ⟨HS7.out, ?_⟩
        try simp only [Act.put, List.getElem_toArray, List.getElem_cons_succ, List.getElem_cons_zero, List.setIfInBounds_toArray, List.set_cons_zero, List.set_cons_succ]
        refine anyI_tail (by kernel_rfl) ?_
        try simp only [List.drop_succ_cons, List.drop_zero]
        clear R
        go_wp2_with (refine wpList_store_blk rfl 59 _ _ (by rfl) (wS.heap.size + 1) d (.slice (some ⟨g7, 0, none⟩) (m + 1) cap7) (by rfl) (by rfl) (rowOf F 4) 60 HS7.out.1 [.slice (some ⟨g7, 0, none⟩) (m + 1) cap7] (by rfl) 1 rfl size_rsus (by rw [rowOf_len]; omega) (by intro u hu; rw [List.mem_singleton.1 hu]; rfl) (rowOf (upd F d (.slice (some ⟨g7, 0, none⟩) (m + 1) cap7)) 4) (rowOf_set _ _ hd) ?_; intro w8 h8 g8)
        refine NoPanic.normal ?_
        have R8 := Lib.hid (HPush.out _ _ _ _ Hgrow7.out Hown7.out Hat7.out g8 h8)
        have h22 := (g8.block w4.heap.size (by have := (Array.getElem?_eq_some_iff.1 HS7.out.2).1; omega) (fun e => by injection e with e; omega)).trans HS7.out.2
        obtain ⟨y0, y1, y2, y3, y4, y5, y6, y7, y8, y9, y10⟩ := sat_block h22
        have z0 : w8.cell? ⟨wS.heap.size, 0, none⟩ = some (.int .i64 bs.g) := (cell_of_row _ _ 0 _ _ _ R8.out.bst).trans rfl
        clear h22 h8 g8 HS7 Hgrow7 Hown7 Hat7
        have Hp1 := Lib.hid (show (1 : Int) ≤ x.g from Hxi.out.g.1)
        cases fo with
        | false =>
          have hb0 : bs.g = 0 := by
            have h := Hfo.out
            by_cases c : bs.g = 0
            · exact c
            · rw [decide_eq_true c] at h; cases h
          have Hpk := Lib.hid (show pickS bs x = x from if_pos (by have := Hp1.out; omega))
          clear hb0
          go_wp2_with (first | (refine wpList_store_blk rfl 54 _ _ (by rfl) wS.heap.size 0 (.agg (suL x).toArray) (by rfl) (by rfl) (suL bs) 54 R8.out.bst (suL x) rfl 11 rfl (by kernel_rfl) (Nat.le_refl 11) (suL_one _) (suL x) (by rfl) ?_; intro w9 h9 g9))
          exact HK.out _ _ _ _ _ _ _ _ _ _ _ _ _ _ _ _ _ _ _ _ _ _ _ _ _ _ _ _ _ _ _ _ _ _ _ _ _ _ _ _ _ true _ _ ⟨by omega, by rw [Hbp.out, Hpk.out]; exact R8.out.setB g9 h9, by rw [Hbp.out, Hpk.out, decide_eq_true (by have := Hp1.out; omega)]⟩ (by omega)
        | true =>
          have hb0 : Hid (bs.g ≠ 0) := Lib.hid (by have h := Hfo.out; exact of_decide_eq_true h.symm)
          by_cases hgt : bs.g < x.g
          · have Hpk := Lib.hid (show pickS bs x = x from if_pos hgt)
            go_wp2_with (first | (refine wpList_store_blk rfl 54 _ _ (by rfl) wS.heap.size 0 (.agg (suL x).toArray) (by rfl) (by rfl) (suL bs) 54 R8.out.bst (suL x) rfl 11 rfl (by kernel_rfl) (Nat.le_refl 11) (suL_one _) (suL x) (by rfl) ?_; intro w9 h9 g9))
            exact HK.out _ _ _ _ _ _ _ _ _ _ _ _ _ _ _ _ _ _ _ _ _ _ _ _ _ _ _ _ _ _ _ _ _ _ _ _ _ _ _ _ _ true _ _ ⟨by omega, by rw [Hbp.out, Hpk.out]; exact R8.out.setB g9 h9, by rw [Hbp.out, Hpk.out, decide_eq_true (by have := Hp1.out; omega)]⟩ (by omega)
          · have Hpk := Lib.hid (show pickS bs x = bs from if_neg hgt)
            go_wp2_with fail
            exact HK.out _ _ _ _ _ _ _ _ _ _ _ _ _ _ _ _ _ _ _ _ _ _ _ _ _ _ _ _ _ _ _ _ _ _ _ _ _ _ _ _ _ true _ _ ⟨by omega, by rw [Hbp.out, Hpk.out]; exact R8.out, by rw [Hbp.out, Hpk.out, decide_eq_true hb0.out]⟩ (by omega)
  · have i1 : ¬ (aa : Int) < 2 := by omega
    have hde : aa = 2 := by omega
    have Hde := Lib.hid hde
    clear HK hde hfo
    go_wp2_with fail
    exact HX.out _ _ _ _ _ _ _ _ _ _ _ _ _ _ _ _ _ _ _ _ _ _ _ _ _ _ _ _ _ _ _ _ _ _ _ _ _ _ _ _ _ Hde.out
set_option maxRecDepth 100000 in
set_option maxHeartbeats 3200000 in
theorem sxA {wS : World} {B b d : Nat} {H : BH} {N : Bch} {fo0 : Bool} {F0 : Nat → Value} {w : World} (u0 u1 u2 u4 u5 u6 u7 u8 u9 u10 u11 u12 u13 u14 u20 u21 u22 u23 u24 u25 u26 u27 u28 u29 u30 u31 u32 u33 u34 u35 u36 u37 u38 u39 u40 u41 u42 u43 u44 u45 u46 u47 u48 u49 u50 u51 u52 u53 u54 u55 u56 u57 u58 u59 u60 u61 u62 u63 u64 u65 u66 u67 u68 u69 u70 u71 u72 u73 u74 u75 u76 u77 u78 u79 u80 u81 u82 u83 u84 u85 u86 u87 u88 u89 u90 u91 u92 u93 u94 u95 u96 u97 u98 u99 u100 u101 u102 u103 u104 u105 u106 u107 u108 u109 u110 u111 u112 u113 u114 u115 u116 u117 u118 u119 u120 u121 u122 u123 u124 u125 u126 u127 u128 u129 u130 u131 u132 u133 u134 u135 u136 u137 u138 u139 u140 u141 u142 u143 u144 u145 u146 u147 u148 u149 u150 u151 u152 u153 u154 u155 u156 u157 u158 u159 u160 u161 u162 u163 u164 u165 u166 u167 u168 u169 u170 u171 u172 u173 u174 u175 u176 u177 u178 u179 u180 u181 u182 u183 u184 u185 u186 u187 u188 u189 u190 u191 u192 u193 u194 u195 u196 u197 u198 u199 u200 u201 u202 u203 u204 u205 u206 u207 u208 u209 u210 u211 u212 u213 u214 u215 u216 u217 u218 u219 u220 u221 u222 u223 u224 u225 u226 u227 u228 u229 u230 u231 u232 u233 u234 u235 u236 u237 u238 u239 u240 u241 u242 u243 u244 u245 u246 u247 u248 u249 u250 u251 u252 u253 u254 u255 u256 u257 u258 u259 u260 u261 u262 u263 u264 u265 u266 u267 u268 u269 u270 u271 u272 u273 u274 u275 u276 u277 u278 : Value) (Q : Exit → Act → World → Prop) (hA : BAt wS B b H N) (hdn : N.down = false) (hn : N.n = 4) (hok : ∀ j, j < 4 → (N.D j).Ok) (hd : d < 4) (hI : (0 ≤ 2 ∧ RSt wS w N F0 d 0 (bestAt N d 0) ∧ fo0 = decide ((bestAt N d 0).g ≠ 0)))
    (hX : ∀ (v20 v21 v22 v23 v174 v175 v176 v177 v178 v179 v180 v181 v182 v183 v184 v185 v186 v187 v188 v189 v190 v191 v192 v193 v194 v195 v196 v197 v198 v199 v200 v201 v202 v203 v204 v205 v206 v207 v208 v209 v210 : Value) (aa : Nat) (fo : Bool) (F : Nat → Value) (V : World), (aa ≤ 2 ∧ RSt wS V N F d aa (bestAt N d aa) ∧ fo = decide ((bestAt N d aa).g ≠ 0)) → (aa = 2) → Q (.exit 7) ⟨List.toArray (u0 :: u1 :: u2 :: (.pointer (some ⟨b, 0, none⟩)) :: u4 :: u5 :: u6 :: u7 :: u8 :: u9 :: u10 :: u11 :: u12 :: u13 :: u14 :: (.pointer (some ⟨wS.heap.size, 0, none⟩)) :: (.bool fo) :: (.pointer (some ⟨wS.heap.size + 1, 0, none⟩)) :: (.int .i64 ((d : Nat) : Int)) :: (.int .i64 ((aa : Nat) : Int)) :: v20 :: v21 :: v22 :: v23 :: u24 :: u25 :: u26 :: u27 :: u28 :: u29 :: u30 :: u31 :: u32 :: u33 :: u34 :: u35 :: u36 :: u37 :: u38 :: u39 :: u40 :: u41 :: u42 :: u43 :: u44 :: u45 :: u46 :: u47 :: u48 :: u49 :: u50 :: u51 :: u52 :: u53 :: u54 :: u55 :: u56 :: u57 :: u58 :: u59 :: u60 :: u61 :: u62 :: u63 :: u64 :: u65 :: u66 :: u67 :: u68 :: u69 :: u70 :: u71 :: u72 :: u73 :: u74 :: u75 :: u76 :: u77 :: u78 :: u79 :: u80 :: u81 :: u82 :: u83 :: u84 :: u85 :: u86 :: u87 :: u88 :: u89 :: u90 :: u91 :: u92 :: u93 :: u94 :: u95 :: u96 :: u97 :: u98 :: u99 :: u100 :: u101 :: u102 :: u103 :: u104 :: u105 :: u106 :: u107 :: u108 :: u109 :: u110 :: u111 :: u112 :: u113 :: u114 :: u115 :: u116 :: u117 :: u118 :: u119 :: u120 :: u121 :: u122 :: u123 :: u124 :: u125 :: u126 :: u127 :: u128 :: u129 :: u130 :: u131 :: u132 :: u133 :: u134 :: u135 :: u136 :: u137 :: u138 :: u139 :: u140 :: u141 :: u142 :: u143 :: u144 :: u145 :: u146 :: u147 :: u148 :: u149 :: u150 :: u151 :: u152 :: u153 :: u154 :: u155 :: u156 :: u157 :: u158 :: u159 :: u160 :: u161 :: u162 :: u163 :: u164 :: u165 :: u166 :: u167 :: u168 :: u169 :: u170 :: u171 :: u172 :: u173 :: v174 :: v175 :: v176 :: v177 :: v178 :: v179 :: v180 :: v181 :: v182 :: v183 :: v184 :: v185 :: v186 :: v187 :: v188 :: v189 :: v190 :: v191 :: v192 :: v193 :: v194 :: v195 :: v196 :: v197 :: v198 :: v199 :: v200 :: v201 :: v202 :: v203 :: v204 :: v205 :: v206 :: v207 :: v208 :: v209 :: v210 :: u211 :: u212 :: u213 :: u214 :: u215 :: u216 :: u217 :: u218 :: u219 :: u220 :: u221 :: u222 :: u223 :: u224 :: u225 :: u226 :: u227 :: u228 :: u229 :: u230 :: u231 :: u232 :: u233 :: u234 :: u235 :: u236 :: u237 :: u238 :: u239 :: u240 :: u241 :: u242 :: u243 :: u244 :: u245 :: u246 :: u247 :: u248 :: u249 :: u250 :: u251 :: u252 :: u253 :: u254 :: u255 :: u256 :: u257 :: u258 :: u259 :: u260 :: u261 :: u262 :: u263 :: u264 :: u265 :: u266 :: u267 :: u268 :: u269 :: u270 :: u271 :: u272 :: u273 :: u274 :: u275 :: u276 :: u277 :: u278 :: []), []⟩ V) :
    Code.wp Tryd.prog (.loop (sub [1, 1, 1, 1, 1, 1, 0, 1, 0, 0, 1, 0, 0, 1, 0, 0] codeSX)) Q ⟨List.toArray (u0 :: u1 :: u2 :: (.pointer (some ⟨b, 0, none⟩)) :: u4 :: u5 :: u6 :: u7 :: u8 :: u9 :: u10 :: u11 :: u12 :: u13 :: u14 :: (.pointer (some ⟨wS.heap.size, 0, none⟩)) :: (.bool fo0) :: (.pointer (some ⟨wS.heap.size + 1, 0, none⟩)) :: (.int .i64 ((d : Nat) : Int)) :: (.int .i64 ((0 : Nat) : Int)) :: u20 :: u21 :: u22 :: u23 :: u24 :: u25 :: u26 :: u27 :: u28 :: u29 :: u30 :: u31 :: u32 :: u33 :: u34 :: u35 :: u36 :: u37 :: u38 :: u39 :: u40 :: u41 :: u42 :: u43 :: u44 :: u45 :: u46 :: u47 :: u48 :: u49 :: u50 :: u51 :: u52 :: u53 :: u54 :: u55 :: u56 :: u57 :: u58 :: u59 :: u60 :: u61 :: u62 :: u63 :: u64 :: u65 :: u66 :: u67 :: u68 :: u69 :: u70 :: u71 :: u72 :: u73 :: u74 :: u75 :: u76 :: u77 :: u78 :: u79 :: u80 :: u81 :: u82 :: u83 :: u84 :: u85 :: u86 :: u87 :: u88 :: u89 :: u90 :: u91 :: u92 :: u93 :: u94 :: u95 :: u96 :: u97 :: u98 :: u99 :: u100 :: u101 :: u102 :: u103 :: u104 :: u105 :: u106 :: u107 :: u108 :: u109 :: u110 :: u111 :: u112 :: u113 :: u114 :: u115 :: u116 :: u117 :: u118 :: u119 :: u120 :: u121 :: u122 :: u123 :: u124 :: u125 :: u126 :: u127 :: u128 :: u129 :: u130 :: u131 :: u132 :: u133 :: u134 :: u135 :: u136 :: u137 :: u138 :: u139 :: u140 :: u141 :: u142 :: u143 :: u144 :: u145 :: u146 :: u147 :: u148 :: u149 :: u150 :: u151 :: u152 :: u153 :: u154 :: u155 :: u156 :: u157 :: u158 :: u159 :: u160 :: u161 :: u162 :: u163 :: u164 :: u165 :: u166 :: u167 :: u168 :: u169 :: u170 :: u171 :: u172 :: u173 :: u174 :: u175 :: u176 :: u177 :: u178 :: u179 :: u180 :: u181 :: u182 :: u183 :: u184 :: u185 :: u186 :: u187 :: u188 :: u189 :: u190 :: u191 :: u192 :: u193 :: u194 :: u195 :: u196 :: u197 :: u198 :: u199 :: u200 :: u201 :: u202 :: u203 :: u204 :: u205 :: u206 :: u207 :: u208 :: u209 :: u210 :: u211 :: u212 :: u213 :: u214 :: u215 :: u216 :: u217 :: u218 :: u219 :: u220 :: u221 :: u222 :: u223 :: u224 :: u225 :: u226 :: u227 :: u228 :: u229 :: u230 :: u231 :: u232 :: u233 :: u234 :: u235 :: u236 :: u237 :: u238 :: u239 :: u240 :: u241 :: u242 :: u243 :: u244 :: u245 :: u246 :: u247 :: u248 :: u249 :: u250 :: u251 :: u252 :: u253 :: u254 :: u255 :: u256 :: u257 :: u258 :: u259 :: u260 :: u261 :: u262 :: u263 :: u264 :: u265 :: u266 :: u267 :: u268 :: u269 :: u270 :: u271 :: u272 :: u273 :: u274 :: u275 :: u276 :: u277 :: u278 :: []), []⟩ w := by
  refine wp_loop_ghost (fun gk a V => ∀ C : Prop, (∀ (u20 u21 u22 u23 u174 u175 u176 u177 u178 u179 u180 u181 u182 u183 u184 u185 u186 u187 u188 u189 u190 u191 u192 u193 u194 u195 u196 u197 u198 u199 u200 u201 u202 u203 u204 u205 u206 u207 u208 u209 u210 : Value) (aa : Nat) (fo : Bool) (F : Nat → Value), gk = 2 - aa → (aa ≤ 2 ∧ RSt wS V N F d aa (bestAt N d aa) ∧ fo = decide ((bestAt N d aa).g ≠ 0)) → a = ⟨List.toArray (u0 :: u1 :: u2 :: (.pointer (some ⟨b, 0, none⟩)) :: u4 :: u5 :: u6 :: u7 :: u8 :: u9 :: u10 :: u11 :: u12 :: u13 :: u14 :: (.pointer (some ⟨wS.heap.size, 0, none⟩)) :: (.bool fo) :: (.pointer (some ⟨wS.heap.size + 1, 0, none⟩)) :: (.int .i64 ((d : Nat) : Int)) :: (.int .i64 ((aa : Nat) : Int)) :: u20 :: u21 :: u22 :: u23 :: u24 :: u25 :: u26 :: u27 :: u28 :: u29 :: u30 :: u31 :: u32 :: u33 :: u34 :: u35 :: u36 :: u37 :: u38 :: u39 :: u40 :: u41 :: u42 :: u43 :: u44 :: u45 :: u46 :: u47 :: u48 :: u49 :: u50 :: u51 :: u52 :: u53 :: u54 :: u55 :: u56 :: u57 :: u58 :: u59 :: u60 :: u61 :: u62 :: u63 :: u64 :: u65 :: u66 :: u67 :: u68 :: u69 :: u70 :: u71 :: u72 :: u73 :: u74 :: u75 :: u76 :: u77 :: u78 :: u79 :: u80 :: u81 :: u82 :: u83 :: u84 :: u85 :: u86 :: u87 :: u88 :: u89 :: u90 :: u91 :: u92 :: u93 :: u94 :: u95 :: u96 :: u97 :: u98 :: u99 :: u100 :: u101 :: u102 :: u103 :: u104 :: u105 :: u106 :: u107 :: u108 :: u109 :: u110 :: u111 :: u112 :: u113 :: u114 :: u115 :: u116 :: u117 :: u118 :: u119 :: u120 :: u121 :: u122 :: u123 :: u124 :: u125 :: u126 :: u127 :: u128 :: u129 :: u130 :: u131 :: u132 :: u133 :: u134 :: u135 :: u136 :: u137 :: u138 :: u139 :: u140 :: u141 :: u142 :: u143 :: u144 :: u145 :: u146 :: u147 :: u148 :: u149 :: u150 :: u151 :: u152 :: u153 :: u154 :: u155 :: u156 :: u157 :: u158 :: u159 :: u160 :: u161 :: u162 :: u163 :: u164 :: u165 :: u166 :: u167 :: u168 :: u169 :: u170 :: u171 :: u172 :: u173 :: u174 :: u175 :: u176 :: u177 :: u178 :: u179 :: u180 :: u181 :: u182 :: u183 :: u184 :: u185 :: u186 :: u187 :: u188 :: u189 :: u190 :: u191 :: u192 :: u193 :: u194 :: u195 :: u196 :: u197 :: u198 :: u199 :: u200 :: u201 :: u202 :: u203 :: u204 :: u205 :: u206 :: u207 :: u208 :: u209 :: u210 :: u211 :: u212 :: u213 :: u214 :: u215 :: u216 :: u217 :: u218 :: u219 :: u220 :: u221 :: u222 :: u223 :: u224 :: u225 :: u226 :: u227 :: u228 :: u229 :: u230 :: u231 :: u232 :: u233 :: u234 :: u235 :: u236 :: u237 :: u238 :: u239 :: u240 :: u241 :: u242 :: u243 :: u244 :: u245 :: u246 :: u247 :: u248 :: u249 :: u250 :: u251 :: u252 :: u253 :: u254 :: u255 :: u256 :: u257 :: u258 :: u259 :: u260 :: u261 :: u262 :: u263 :: u264 :: u265 :: u266 :: u267 :: u268 :: u269 :: u270 :: u271 :: u272 :: u273 :: u274 :: u275 :: u276 :: u277 :: u278 :: []), []⟩ → C) → C) (2 - 0) ?_ ?_
  · intro C hC
    exact hC _ _ _ _ _ _ _ _ _ _ _ _ _ _ _ _ _ _ _ _ _ _ _ _ _ _ _ _ _ _ _ _ _ _ _ _ _ _ _ _ _ (0) (fo0) (F0) rfl hI rfl
  · intro gk a V hI'
    refine hI' _ ?_
    intro u20 u21 u22 u23 u174 u175 u176 u177 u178 u179 u180 u181 u182 u183 u184 u185 u186 u187 u188 u189 u190 u191 u192 u193 u194 u195 u196 u197 u198 u199 u200 u201 u202 u203 u204 u205 u206 u207 u208 u209 u210 aa fo F hk hinv ha
    subst ha
    subst hk
    refine sxAb _ _ _ _ _ _ _ _ _ _ _ _ _ _ _ _ _ _ _ _ _ _ _ _ _ _ _ _ _ _ _ _ _ _ _ _ _ _ _ _ _ _ _ _ _ _ _ _ _ _ _ _ _ _ _ _ _ _ _ _ _ _ _ _ _ _ _ _ _ _ _ _ _ _ _ _ _ _ _ _ _ _ _ _ _ _ _ _ _ _ _ _ _ _ _ _ _ _ _ _ _ _ _ _ _ _ _ _ _ _ _ _ _ _ _ _ _ _ _ _ _ _ _ _ _ _ _ _ _ _ _ _ _ _ _ _ _ _ _ _ _ _ _ _ _ _ _ _ _ _ _ _ _ _ _ _ _ _ _ _ _ _ _ _ _ _ _ _ _ _ _ _ _ _ _ _ _ _ _ _ _ _ _ _ _ _ _ _ _ _ _ _ _ _ _ _ _ _ _ _ _ _ _ _ _ _ _ _ _ _ _ _ _ _ _ _ _ _ _ _ _ _ _ _ _ _ _ _ _ _ _ _ _ _ _ _ _ _ _ _ _ _ _ _ _ _ _ _ _ _ _ _ _ _ _ _ _ _ _ _ _ _ _ _ _ _ _ _ _ _ _ _ _ _ _ hA hdn hn hok hd hinv (fun v20 v21 v22 v23 v174 v175 v176 v177 v178 v179 v180 v181 v182 v183 v184 v185 v186 v187 v188 v189 v190 v191 v192 v193 v194 v195 v196 v197 v198 v199 v200 v201 v202 v203 v204 v205 v206 v207 v208 v209 v210 fo2 F2 V2 h2 hm => ?_) (fun v20 v21 v22 v23 v174 v175 v176 v177 v178 v179 v180 v181 v182 v183 v184 v185 v186 v187 v188 v189 v190 v191 v192 v193 v194 v195 v196 v197 v198 v199 v200 v201 v202 v203 v204 v205 v206 v207 v208 v209 v210 hx => hX v20 v21 v22 v23 v174 v175 v176 v177 v178 v179 v180 v181 v182 v183 v184 v185 v186 v187 v188 v189 v190 v191 v192 v193 v194 v195 v196 v197 v198 v199 v200 v201 v202 v203 v204 v205 v206 v207 v208 v209 v210 aa fo F V hinv hx)
    refine ⟨_, hm, fun C hC => ?_⟩
    exact hC v20 v21 v22 v23 v174 v175 v176 v177 v178 v179 v180 v181 v182 v183 v184 v185 v186 v187 v188 v189 v190 v191 v192 v193 v194 v195 v196 v197 v198 v199 v200 v201 v202 v203 v204 v205 v206 v207 v208 v209 v210 ((aa + 1)) (fo2) (F2) rfl h2 rfl
set_option maxRecDepth 100000 in
set_option maxHeartbeats 3200000 in
theorem sxDb {wS : World} {B b : Nat} {H : BH} {N : Bch} {d : Nat} {fo : Bool} {F : Nat → Value} {w : World} (u0 u1 u2 u4 u5 u6 u7 u8 u9 u10 u11 u12 u13 u14 u19 u20 u21 u22 u23 u24 u25 u26 u27 u28 u29 u30 u31 u32 u33 u34 u35 u36 u37 u38 u39 u40 u41 u42 u43 u44 u45 u46 u47 u48 u49 u50 u51 u52 u53 u54 u55 u56 u57 u58 u59 u60 u61 u62 u63 u64 u65 u66 u67 u68 u69 u70 u71 u72 u73 u74 u75 u76 u77 u78 u79 u80 u81 u82 u83 u84 u85 u86 u87 u88 u89 u90 u91 u92 u93 u94 u95 u96 u97 u98 u99 u100 u101 u102 u103 u104 u105 u106 u107 u108 u109 u110 u111 u112 u113 u114 u115 u116 u117 u118 u119 u120 u121 u122 u123 u124 u125 u126 u127 u128 u129 u130 u131 u132 u133 u134 u135 u136 u137 u138 u139 u140 u141 u142 u143 u144 u145 u146 u147 u148 u149 u150 u151 u152 u153 u154 u155 u156 u157 u158 u159 u160 u161 u162 u163 u164 u165 u166 u167 u168 u169 u170 u171 u172 u173 u174 u175 u176 u177 u178 u179 u180 u181 u182 u183 u184 u185 u186 u187 u188 u189 u190 u191 u192 u193 u194 u195 u196 u197 u198 u199 u200 u201 u202 u203 u204 u205 u206 u207 u208 u209 u210 u211 u212 u213 u214 u215 u216 u217 u218 u219 u220 u221 u222 u223 u224 u225 u226 u227 u228 u229 u230 u231 u232 u233 u234 u235 u236 u237 u238 u239 u240 u241 u242 u243 u244 u245 u246 u247 u248 u249 u250 u251 u252 u253 u254 u255 u256 u257 u258 u259 u260 u261 u262 u263 u264 u265 u266 u267 u268 u269 u270 u271 u272 u273 u274 u275 u276 u277 u278 : Value) (K : Act → World → Prop) (Q0 : Exit → Act → World → Prop) (hA : BAt wS B b H N) (hdn : N.down = false) (hn : N.n = 4) (hok : ∀ j, j < 4 → (N.D j).Ok) (hI : (d ≤ 4 ∧ RSt wS w N F d 0 (bestTo N d) ∧ fo = decide ((bestTo N d).g ≠ 0)))
    (hK : ∀ (v19 v20 v21 v22 v23 v170 v171 v172 v173 v174 v175 v176 v177 v178 v179 v180 v181 v182 v183 v184 v185 v186 v187 v188 v189 v190 v191 v192 v193 v194 v195 v196 v197 v198 v199 v200 v201 v202 v203 v204 v205 v206 v207 v208 v209 v210 : Value) (fo2 : Bool) (F2 : Nat → Value) (V : World), ((d + 1) ≤ 4 ∧ RSt wS V N F2 (d + 1) 0 (bestTo N (d + 1)) ∧ fo2 = decide ((bestTo N (d + 1)).g ≠ 0)) → 4 - (d + 1) < 4 - d → K ⟨List.toArray (u0 :: u1 :: u2 :: (.pointer (some ⟨b, 0, none⟩)) :: u4 :: u5 :: u6 :: u7 :: u8 :: u9 :: u10 :: u11 :: u12 :: u13 :: u14 :: (.pointer (some ⟨wS.heap.size, 0, none⟩)) :: (.bool fo2) :: (.pointer (some ⟨wS.heap.size + 1, 0, none⟩)) :: (.int .i64 (((d + 1) : Nat) : Int)) :: v19 :: v20 :: v21 :: v22 :: v23 :: u24 :: u25 :: u26 :: u27 :: u28 :: u29 :: u30 :: u31 :: u32 :: u33 :: u34 :: u35 :: u36 :: u37 :: u38 :: u39 :: u40 :: u41 :: u42 :: u43 :: u44 :: u45 :: u46 :: u47 :: u48 :: u49 :: u50 :: u51 :: u52 :: u53 :: u54 :: u55 :: u56 :: u57 :: u58 :: u59 :: u60 :: u61 :: u62 :: u63 :: u64 :: u65 :: u66 :: u67 :: u68 :: u69 :: u70 :: u71 :: u72 :: u73 :: u74 :: u75 :: u76 :: u77 :: u78 :: u79 :: u80 :: u81 :: u82 :: u83 :: u84 :: u85 :: u86 :: u87 :: u88 :: u89 :: u90 :: u91 :: u92 :: u93 :: u94 :: u95 :: u96 :: u97 :: u98 :: u99 :: u100 :: u101 :: u102 :: u103 :: u104 :: u105 :: u106 :: u107 :: u108 :: u109 :: u110 :: u111 :: u112 :: u113 :: u114 :: u115 :: u116 :: u117 :: u118 :: u119 :: u120 :: u121 :: u122 :: u123 :: u124 :: u125 :: u126 :: u127 :: u128 :: u129 :: u130 :: u131 :: u132 :: u133 :: u134 :: u135 :: u136 :: u137 :: u138 :: u139 :: u140 :: u141 :: u142 :: u143 :: u144 :: u145 :: u146 :: u147 :: u148 :: u149 :: u150 :: u151 :: u152 :: u153 :: u154 :: u155 :: u156 :: u157 :: u158 :: u159 :: u160 :: u161 :: u162 :: u163 :: u164 :: u165 :: u166 :: u167 :: u168 :: u169 :: v170 :: v171 :: v172 :: v173 :: v174 :: v175 :: v176 :: v177 :: v178 :: v179 :: v180 :: v181 :: v182 :: v183 :: v184 :: v185 :: v186 :: v187 :: v188 :: v189 :: v190 :: v191 :: v192 :: v193 :: v194 :: v195 :: v196 :: v197 :: v198 :: v199 :: v200 :: v201 :: v202 :: v203 :: v204 :: v205 :: v206 :: v207 :: v208 :: v209 :: v210 :: u211 :: u212 :: u213 :: u214 :: u215 :: u216 :: u217 :: u218 :: u219 :: u220 :: u221 :: u222 :: u223 :: u224 :: u225 :: u226 :: u227 :: u228 :: u229 :: u230 :: u231 :: u232 :: u233 :: u234 :: u235 :: u236 :: u237 :: u238 :: u239 :: u240 :: u241 :: u242 :: u243 :: u244 :: u245 :: u246 :: u247 :: u248 :: u249 :: u250 :: u251 :: u252 :: u253 :: u254 :: u255 :: u256 :: u257 :: u258 :: u259 :: u260 :: u261 :: u262 :: u263 :: u264 :: u265 :: u266 :: u267 :: u268 :: u269 :: u270 :: u271 :: u272 :: u273 :: u274 :: u275 :: u276 :: u277 :: u278 :: []), []⟩ V)
    (hX : ∀ (v19 v20 v21 v22 v23 v170 v171 v172 v173 v174 v175 v176 v177 v178 v179 v180 v181 v182 v183 v184 v185 v186 v187 v188 v189 v190 v191 v192 v193 v194 v195 v196 v197 v198 v199 v200 v201 v202 v203 v204 v205 v206 v207 v208 v209 v210 : Value), (d = 4) → Q0 (.exit 5) ⟨List.toArray (u0 :: u1 :: u2 :: (.pointer (some ⟨b, 0, none⟩)) :: u4 :: u5 :: u6 :: u7 :: u8 :: u9 :: u10 :: u11 :: u12 :: u13 :: u14 :: (.pointer (some ⟨wS.heap.size, 0, none⟩)) :: (.bool fo) :: (.pointer (some ⟨wS.heap.size + 1, 0, none⟩)) :: (.int .i64 ((d : Nat) : Int)) :: v19 :: v20 :: v21 :: v22 :: v23 :: u24 :: u25 :: u26 :: u27 :: u28 :: u29 :: u30 :: u31 :: u32 :: u33 :: u34 :: u35 :: u36 :: u37 :: u38 :: u39 :: u40 :: u41 :: u42 :: u43 :: u44 :: u45 :: u46 :: u47 :: u48 :: u49 :: u50 :: u51 :: u52 :: u53 :: u54 :: u55 :: u56 :: u57 :: u58 :: u59 :: u60 :: u61 :: u62 :: u63 :: u64 :: u65 :: u66 :: u67 :: u68 :: u69 :: u70 :: u71 :: u72 :: u73 :: u74 :: u75 :: u76 :: u77 :: u78 :: u79 :: u80 :: u81 :: u82 :: u83 :: u84 :: u85 :: u86 :: u87 :: u88 :: u89 :: u90 :: u91 :: u92 :: u93 :: u94 :: u95 :: u96 :: u97 :: u98 :: u99 :: u100 :: u101 :: u102 :: u103 :: u104 :: u105 :: u106 :: u107 :: u108 :: u109 :: u110 :: u111 :: u112 :: u113 :: u114 :: u115 :: u116 :: u117 :: u118 :: u119 :: u120 :: u121 :: u122 :: u123 :: u124 :: u125 :: u126 :: u127 :: u128 :: u129 :: u130 :: u131 :: u132 :: u133 :: u134 :: u135 :: u136 :: u137 :: u138 :: u139 :: u140 :: u141 :: u142 :: u143 :: u144 :: u145 :: u146 :: u147 :: u148 :: u149 :: u150 :: u151 :: u152 :: u153 :: u154 :: u155 :: u156 :: u157 :: u158 :: u159 :: u160 :: u161 :: u162 :: u163 :: u164 :: u165 :: u166 :: u167 :: u168 :: u169 :: v170 :: v171 :: v172 :: v173 :: v174 :: v175 :: v176 :: v177 :: v178 :: v179 :: v180 :: v181 :: v182 :: v183 :: v184 :: v185 :: v186 :: v187 :: v188 :: v189 :: v190 :: v191 :: v192 :: v193 :: v194 :: v195 :: v196 :: v197 :: v198 :: v199 :: v200 :: v201 :: v202 :: v203 :: v204 :: v205 :: v206 :: v207 :: v208 :: v209 :: v210 :: u211 :: u212 :: u213 :: u214 :: u215 :: u216 :: u217 :: u218 :: u219 :: u220 :: u221 :: u222 :: u223 :: u224 :: u225 :: u226 :: u227 :: u228 :: u229 :: u230 :: u231 :: u232 :: u233 :: u234 :: u235 :: u236 :: u237 :: u238 :: u239 :: u240 :: u241 :: u242 :: u243 :: u244 :: u245 :: u246 :: u247 :: u248 :: u249 :: u250 :: u251 :: u252 :: u253 :: u254 :: u255 :: u256 :: u257 :: u258 :: u259 :: u260 :: u261 :: u262 :: u263 :: u264 :: u265 :: u266 :: u267 :: u268 :: u269 :: u270 :: u271 :: u272 :: u273 :: u274 :: u275 :: u276 :: u277 :: u278 :: []), []⟩ w) :
    Code.wp Tryd.prog (sub [1, 1, 1, 1, 1, 1, 0, 1, 0, 0] codeSX) (Exit.then K Q0) ⟨List.toArray (u0 :: u1 :: u2 :: (.pointer (some ⟨b, 0, none⟩)) :: u4 :: u5 :: u6 :: u7 :: u8 :: u9 :: u10 :: u11 :: u12 :: u13 :: u14 :: (.pointer (some ⟨wS.heap.size, 0, none⟩)) :: (.bool fo) :: (.pointer (some ⟨wS.heap.size + 1, 0, none⟩)) :: (.int .i64 ((d : Nat) : Int)) :: u19 :: u20 :: u21 :: u22 :: u23 :: u24 :: u25 :: u26 :: u27 :: u28 :: u29 :: u30 :: u31 :: u32 :: u33 :: u34 :: u35 :: u36 :: u37 :: u38 :: u39 :: u40 :: u41 :: u42 :: u43 :: u44 :: u45 :: u46 :: u47 :: u48 :: u49 :: u50 :: u51 :: u52 :: u53 :: u54 :: u55 :: u56 :: u57 :: u58 :: u59 :: u60 :: u61 :: u62 :: u63 :: u64 :: u65 :: u66 :: u67 :: u68 :: u69 :: u70 :: u71 :: u72 :: u73 :: u74 :: u75 :: u76 :: u77 :: u78 :: u79 :: u80 :: u81 :: u82 :: u83 :: u84 :: u85 :: u86 :: u87 :: u88 :: u89 :: u90 :: u91 :: u92 :: u93 :: u94 :: u95 :: u96 :: u97 :: u98 :: u99 :: u100 :: u101 :: u102 :: u103 :: u104 :: u105 :: u106 :: u107 :: u108 :: u109 :: u110 :: u111 :: u112 :: u113 :: u114 :: u115 :: u116 :: u117 :: u118 :: u119 :: u120 :: u121 :: u122 :: u123 :: u124 :: u125 :: u126 :: u127 :: u128 :: u129 :: u130 :: u131 :: u132 :: u133 :: u134 :: u135 :: u136 :: u137 :: u138 :: u139 :: u140 :: u141 :: u142 :: u143 :: u144 :: u145 :: u146 :: u147 :: u148 :: u149 :: u150 :: u151 :: u152 :: u153 :: u154 :: u155 :: u156 :: u157 :: u158 :: u159 :: u160 :: u161 :: u162 :: u163 :: u164 :: u165 :: u166 :: u167 :: u168 :: u169 :: u170 :: u171 :: u172 :: u173 :: u174 :: u175 :: u176 :: u177 :: u178 :: u179 :: u180 :: u181 :: u182 :: u183 :: u184 :: u185 :: u186 :: u187 :: u188 :: u189 :: u190 :: u191 :: u192 :: u193 :: u194 :: u195 :: u196 :: u197 :: u198 :: u199 :: u200 :: u201 :: u202 :: u203 :: u204 :: u205 :: u206 :: u207 :: u208 :: u209 :: u210 :: u211 :: u212 :: u213 :: u214 :: u215 :: u216 :: u217 :: u218 :: u219 :: u220 :: u221 :: u222 :: u223 :: u224 :: u225 :: u226 :: u227 :: u228 :: u229 :: u230 :: u231 :: u232 :: u233 :: u234 :: u235 :: u236 :: u237 :: u238 :: u239 :: u240 :: u241 :: u242 :: u243 :: u244 :: u245 :: u246 :: u247 :: u248 :: u249 :: u250 :: u251 :: u252 :: u253 :: u254 :: u255 :: u256 :: u257 :: u258 :: u259 :: u260 :: u261 :: u262 :: u263 :: u264 :: u265 :: u266 :: u267 :: u268 :: u269 :: u270 :: u271 :: u272 :: u273 :: u274 :: u275 :: u276 :: u277 :: u278 :: []), []⟩ w := by
  have HK := Lib.hid hK
  have HX := Lib.hid hX
  clear hK hX
  conv => arg 2; whnf
  obtain ⟨hd, hS, hfo⟩ := hI
  by_cases hlt : d < 4
  · have d0 : (0 : Int) ≤ (d : Int) := by omega
    have d1 : (d : Int) < 4 := by omega
    have HS := Lib.hid hS
    have Hfo := Lib.hid hfo
    clear HX hS hfo
    go_wp2_with fail
    refine sxA _ _ _ _ _ _ _ _ _ _ _ _ _ _ _ _ _ _ _ _ _ _ _ _ _ _ _ _ _ _ _ _ _ _ _ _ _ _ _ _ _ _ _ _ _ _ _ _ _ _ _ _ _ _ _ _ _ _ _ _ _ _ _ _ _ _ _ _ _ _ _ _ _ _ _ _ _ _ _ _ _ _ _ _ _ _ _ _ _ _ _ _ _ _ _ _ _ _ _ _ _ _ _ _ _ _ _ _ _ _ _ _ _ _ _ _ _ _ _ _ _ _ _ _ _ _ _ _ _ _ _ _ _ _ _ _ _ _ _ _ _ _ _ _ _ _ _ _ _ _ _ _ _ _ _ _ _ _ _ _ _ _ _ _ _ _ _ _ _ _ _ _ _ _ _ _ _ _ _ _ _ _ _ _ _ _ _ _ _ _ _ _ _ _ _ _ _ _ _ _ _ _ _ _ _ _ _ _ _ _ _ _ _ _ _ _ _ _ _ _ _ _ _ _ _ _ _ _ _ _ _ _ _ _ _ _ _ _ _ _ _ _ _ _ _ _ _ _ _ _ _ _ _ _ _ _ _ _ _ _ _ _ _ _ _ _ _ _ _ _ _ _ _ _ hA hdn hn hok hlt ⟨Nat.zero_le _, HS.out, Hfo.out⟩ (fun v20 v21 v22 v23 v174 v175 v176 v177 v178 v179 v180 v181 v182 v183 v184 v185 v186 v187 v188 v189 v190 v191 v192 v193 v194 v195 v196 v197 v198 v199 v200 v201 v202 v203 v204 v205 v206 v207 v208 v209 v210 aa fo2 F2 V2 hI hx => ?_)
    subst hx
    have HS2 := Lib.hid hI.2.1.next
    have Hfo2 := Lib.hid hI.2.2
    rw [bestAt_two] at HS2 Hfo2
    clear hI
    go_wp2_with fail
    exact HK.out _ _ _ _ _ _ _ _ _ _ _ _ _ _ _ _ _ _ _ _ _ _ _ _ _ _ _ _ _ _ _ _ _ _ _ _ _ _ _ _ _ _ _ _ _ _ fo2 F2 _ ⟨by omega, HS2.out, Hfo2.out⟩ (by omega)
  · have i1 : ¬ (d : Int) < 4 := by omega
    have hde : d = 4 := by omega
    have Hde := Lib.hid hde
    clear HK hde hfo
    go_wp2_with fail
    exact HX.out _ _ _ _ _ _ _ _ _ _ _ _ _ _ _ _ _ _ _ _ _ _ _ _ _ _ _ _ _ _ _ _ _ _ _ _ _ _ _ _ _ _ _ _ _ _ Hde.out
set_option maxRecDepth 100000 in
set_option maxHeartbeats 3200000 in
theorem sxD {wS : World} {B b : Nat} {H : BH} {N : Bch} {fo0 : Bool} {F0 : Nat → Value} {w : World} (u0 u1 u2 u4 u5 u6 u7 u8 u9 u10 u11 u12 u13 u14 u19 u20 u21 u22 u23 u24 u25 u26 u27 u28 u29 u30 u31 u32 u33 u34 u35 u36 u37 u38 u39 u40 u41 u42 u43 u44 u45 u46 u47 u48 u49 u50 u51 u52 u53 u54 u55 u56 u57 u58 u59 u60 u61 u62 u63 u64 u65 u66 u67 u68 u69 u70 u71 u72 u73 u74 u75 u76 u77 u78 u79 u80 u81 u82 u83 u84 u85 u86 u87 u88 u89 u90 u91 u92 u93 u94 u95 u96 u97 u98 u99 u100 u101 u102 u103 u104 u105 u106 u107 u108 u109 u110 u111 u112 u113 u114 u115 u116 u117 u118 u119 u120 u121 u122 u123 u124 u125 u126 u127 u128 u129 u130 u131 u132 u133 u134 u135 u136 u137 u138 u139 u140 u141 u142 u143 u144 u145 u146 u147 u148 u149 u150 u151 u152 u153 u154 u155 u156 u157 u158 u159 u160 u161 u162 u163 u164 u165 u166 u167 u168 u169 u170 u171 u172 u173 u174 u175 u176 u177 u178 u179 u180 u181 u182 u183 u184 u185 u186 u187 u188 u189 u190 u191 u192 u193 u194 u195 u196 u197 u198 u199 u200 u201 u202 u203 u204 u205 u206 u207 u208 u209 u210 u211 u212 u213 u214 u215 u216 u217 u218 u219 u220 u221 u222 u223 u224 u225 u226 u227 u228 u229 u230 u231 u232 u233 u234 u235 u236 u237 u238 u239 u240 u241 u242 u243 u244 u245 u246 u247 u248 u249 u250 u251 u252 u253 u254 u255 u256 u257 u258 u259 u260 u261 u262 u263 u264 u265 u266 u267 u268 u269 u270 u271 u272 u273 u274 u275 u276 u277 u278 : Value) (Q : Exit → Act → World → Prop) (hA : BAt wS B b H N) (hdn : N.down = false) (hn : N.n = 4) (hok : ∀ j, j < 4 → (N.D j).Ok) (hI : (0 ≤ 4 ∧ RSt wS w N F0 0 0 (bestTo N 0) ∧ fo0 = decide ((bestTo N 0).g ≠ 0)))
    (hX : ∀ (v19 v20 v21 v22 v23 v170 v171 v172 v173 v174 v175 v176 v177 v178 v179 v180 v181 v182 v183 v184 v185 v186 v187 v188 v189 v190 v191 v192 v193 v194 v195 v196 v197 v198 v199 v200 v201 v202 v203 v204 v205 v206 v207 v208 v209 v210 : Value) (d : Nat) (fo : Bool) (F : Nat → Value) (V : World), (d ≤ 4 ∧ RSt wS V N F d 0 (bestTo N d) ∧ fo = decide ((bestTo N d).g ≠ 0)) → (d = 4) → Q (.exit 5) ⟨List.toArray (u0 :: u1 :: u2 :: (.pointer (some ⟨b, 0, none⟩)) :: u4 :: u5 :: u6 :: u7 :: u8 :: u9 :: u10 :: u11 :: u12 :: u13 :: u14 :: (.pointer (some ⟨wS.heap.size, 0, none⟩)) :: (.bool fo) :: (.pointer (some ⟨wS.heap.size + 1, 0, none⟩)) :: (.int .i64 ((d : Nat) : Int)) :: v19 :: v20 :: v21 :: v22 :: v23 :: u24 :: u25 :: u26 :: u27 :: u28 :: u29 :: u30 :: u31 :: u32 :: u33 :: u34 :: u35 :: u36 :: u37 :: u38 :: u39 :: u40 :: u41 :: u42 :: u43 :: u44 :: u45 :: u46 :: u47 :: u48 :: u49 :: u50 :: u51 :: u52 :: u53 :: u54 :: u55 :: u56 :: u57 :: u58 :: u59 :: u60 :: u61 :: u62 :: u63 :: u64 :: u65 :: u66 :: u67 :: u68 :: u69 :: u70 :: u71 :: u72 :: u73 :: u74 :: u75 :: u76 :: u77 :: u78 :: u79 :: u80 :: u81 :: u82 :: u83 :: u84 :: u85 :: u86 :: u87 :: u88 :: u89 :: u90 :: u91 :: u92 :: u93 :: u94 :: u95 :: u96 :: u97 :: u98 :: u99 :: u100 :: u101 :: u102 :: u103 :: u104 :: u105 :: u106 :: u107 :: u108 :: u109 :: u110 :: u111 :: u112 :: u113 :: u114 :: u115 :: u116 :: u117 :: u118 :: u119 :: u120 :: u121 :: u122 :: u123 :: u124 :: u125 :: u126 :: u127 :: u128 :: u129 :: u130 :: u131 :: u132 :: u133 :: u134 :: u135 :: u136 :: u137 :: u138 :: u139 :: u140 :: u141 :: u142 :: u143 :: u144 :: u145 :: u146 :: u147 :: u148 :: u149 :: u150 :: u151 :: u152 :: u153 :: u154 :: u155 :: u156 :: u157 :: u158 :: u159 :: u160 :: u161 :: u162 :: u163 :: u164 :: u165 :: u166 :: u167 :: u168 :: u169 :: v170 :: v171 :: v172 :: v173 :: v174 :: v175 :: v176 :: v177 :: v178 :: v179 :: v180 :: v181 :: v182 :: v183 :: v184 :: v185 :: v186 :: v187 :: v188 :: v189 :: v190 :: v191 :: v192 :: v193 :: v194 :: v195 :: v196 :: v197 :: v198 :: v199 :: v200 :: v201 :: v202 :: v203 :: v204 :: v205 :: v206 :: v207 :: v208 :: v209 :: v210 :: u211 :: u212 :: u213 :: u214 :: u215 :: u216 :: u217 :: u218 :: u219 :: u220 :: u221 :: u222 :: u223 :: u224 :: u225 :: u226 :: u227 :: u228 :: u229 :: u230 :: u231 :: u232 :: u233 :: u234 :: u235 :: u236 :: u237 :: u238 :: u239 :: u240 :: u241 :: u242 :: u243 :: u244 :: u245 :: u246 :: u247 :: u248 :: u249 :: u250 :: u251 :: u252 :: u253 :: u254 :: u255 :: u256 :: u257 :: u258 :: u259 :: u260 :: u261 :: u262 :: u263 :: u264 :: u265 :: u266 :: u267 :: u268 :: u269 :: u270 :: u271 :: u272 :: u273 :: u274 :: u275 :: u276 :: u277 :: u278 :: []), []⟩ V) :
    Code.wp Tryd.prog (.loop (sub [1, 1, 1, 1, 1, 1, 0, 1, 0, 0] codeSX)) Q ⟨List.toArray (u0 :: u1 :: u2 :: (.pointer (some ⟨b, 0, none⟩)) :: u4 :: u5 :: u6 :: u7 :: u8 :: u9 :: u10 :: u11 :: u12 :: u13 :: u14 :: (.pointer (some ⟨wS.heap.size, 0, none⟩)) :: (.bool fo0) :: (.pointer (some ⟨wS.heap.size + 1, 0, none⟩)) :: (.int .i64 ((0 : Nat) : Int)) :: u19 :: u20 :: u21 :: u22 :: u23 :: u24 :: u25 :: u26 :: u27 :: u28 :: u29 :: u30 :: u31 :: u32 :: u33 :: u34 :: u35 :: u36 :: u37 :: u38 :: u39 :: u40 :: u41 :: u42 :: u43 :: u44 :: u45 :: u46 :: u47 :: u48 :: u49 :: u50 :: u51 :: u52 :: u53 :: u54 :: u55 :: u56 :: u57 :: u58 :: u59 :: u60 :: u61 :: u62 :: u63 :: u64 :: u65 :: u66 :: u67 :: u68 :: u69 :: u70 :: u71 :: u72 :: u73 :: u74 :: u75 :: u76 :: u77 :: u78 :: u79 :: u80 :: u81 :: u82 :: u83 :: u84 :: u85 :: u86 :: u87 :: u88 :: u89 :: u90 :: u91 :: u92 :: u93 :: u94 :: u95 :: u96 :: u97 :: u98 :: u99 :: u100 :: u101 :: u102 :: u103 :: u104 :: u105 :: u106 :: u107 :: u108 :: u109 :: u110 :: u111 :: u112 :: u113 :: u114 :: u115 :: u116 :: u117 :: u118 :: u119 :: u120 :: u121 :: u122 :: u123 :: u124 :: u125 :: u126 :: u127 :: u128 :: u129 :: u130 :: u131 :: u132 :: u133 :: u134 :: u135 :: u136 :: u137 :: u138 :: u139 :: u140 :: u141 :: u142 :: u143 :: u144 :: u145 :: u146 :: u147 :: u148 :: u149 :: u150 :: u151 :: u152 :: u153 :: u154 :: u155 :: u156 :: u157 :: u158 :: u159 :: u160 :: u161 :: u162 :: u163 :: u164 :: u165 :: u166 :: u167 :: u168 :: u169 :: u170 :: u171 :: u172 :: u173 :: u174 :: u175 :: u176 :: u177 :: u178 :: u179 :: u180 :: u181 :: u182 :: u183 :: u184 :: u185 :: u186 :: u187 :: u188 :: u189 :: u190 :: u191 :: u192 :: u193 :: u194 :: u195 :: u196 :: u197 :: u198 :: u199 :: u200 :: u201 :: u202 :: u203 :: u204 :: u205 :: u206 :: u207 :: u208 :: u209 :: u210 :: u211 :: u212 :: u213 :: u214 :: u215 :: u216 :: u217 :: u218 :: u219 :: u220 :: u221 :: u222 :: u223 :: u224 :: u225 :: u226 :: u227 :: u228 :: u229 :: u230 :: u231 :: u232 :: u233 :: u234 :: u235 :: u236 :: u237 :: u238 :: u239 :: u240 :: u241 :: u242 :: u243 :: u244 :: u245 :: u246 :: u247 :: u248 :: u249 :: u250 :: u251 :: u252 :: u253 :: u254 :: u255 :: u256 :: u257 :: u258 :: u259 :: u260 :: u261 :: u262 :: u263 :: u264 :: u265 :: u266 :: u267 :: u268 :: u269 :: u270 :: u271 :: u272 :: u273 :: u274 :: u275 :: u276 :: u277 :: u278 :: []), []⟩ w := by
  refine wp_loop_ghost (fun gk a V => ∀ C : Prop, (∀ (u19 u20 u21 u22 u23 u170 u171 u172 u173 u174 u175 u176 u177 u178 u179 u180 u181 u182 u183 u184 u185 u186 u187 u188 u189 u190 u191 u192 u193 u194 u195 u196 u197 u198 u199 u200 u201 u202 u203 u204 u205 u206 u207 u208 u209 u210 : Value) (d : Nat) (fo : Bool) (F : Nat → Value), gk = 4 - d → (d ≤ 4 ∧ RSt wS V N F d 0 (bestTo N d) ∧ fo = decide ((bestTo N d).g ≠ 0)) → a = ⟨List.toArray (u0 :: u1 :: u2 :: (.pointer (some ⟨b, 0, none⟩)) :: u4 :: u5 :: u6 :: u7 :: u8 :: u9 :: u10 :: u11 :: u12 :: u13 :: u14 :: (.pointer (some ⟨wS.heap.size, 0, none⟩)) :: (.bool fo) :: (.pointer (some ⟨wS.heap.size + 1, 0, none⟩)) :: (.int .i64 ((d : Nat) : Int)) :: u19 :: u20 :: u21 :: u22 :: u23 :: u24 :: u25 :: u26 :: u27 :: u28 :: u29 :: u30 :: u31 :: u32 :: u33 :: u34 :: u35 :: u36 :: u37 :: u38 :: u39 :: u40 :: u41 :: u42 :: u43 :: u44 :: u45 :: u46 :: u47 :: u48 :: u49 :: u50 :: u51 :: u52 :: u53 :: u54 :: u55 :: u56 :: u57 :: u58 :: u59 :: u60 :: u61 :: u62 :: u63 :: u64 :: u65 :: u66 :: u67 :: u68 :: u69 :: u70 :: u71 :: u72 :: u73 :: u74 :: u75 :: u76 :: u77 :: u78 :: u79 :: u80 :: u81 :: u82 :: u83 :: u84 :: u85 :: u86 :: u87 :: u88 :: u89 :: u90 :: u91 :: u92 :: u93 :: u94 :: u95 :: u96 :: u97 :: u98 :: u99 :: u100 :: u101 :: u102 :: u103 :: u104 :: u105 :: u106 :: u107 :: u108 :: u109 :: u110 :: u111 :: u112 :: u113 :: u114 :: u115 :: u116 :: u117 :: u118 :: u119 :: u120 :: u121 :: u122 :: u123 :: u124 :: u125 :: u126 :: u127 :: u128 :: u129 :: u130 :: u131 :: u132 :: u133 :: u134 :: u135 :: u136 :: u137 :: u138 :: u139 :: u140 :: u141 :: u142 :: u143 :: u144 :: u145 :: u146 :: u147 :: u148 :: u149 :: u150 :: u151 :: u152 :: u153 :: u154 :: u155 :: u156 :: u157 :: u158 :: u159 :: u160 :: u161 :: u162 :: u163 :: u164 :: u165 :: u166 :: u167 :: u168 :: u169 :: u170 :: u171 :: u172 :: u173 :: u174 :: u175 :: u176 :: u177 :: u178 :: u179 :: u180 :: u181 :: u182 :: u183 :: u184 :: u185 :: u186 :: u187 :: u188 :: u189 :: u190 :: u191 :: u192 :: u193 :: u194 :: u195 :: u196 :: u197 :: u198 :: u199 :: u200 :: u201 :: u202 :: u203 :: u204 :: u205 :: u206 :: u207 :: u208 :: u209 :: u210 :: u211 :: u212 :: u213 :: u214 :: u215 :: u216 :: u217 :: u218 :: u219 :: u220 :: u221 :: u222 :: u223 :: u224 :: u225 :: u226 :: u227 :: u228 :: u229 :: u230 :: u231 :: u232 :: u233 :: u234 :: u235 :: u236 :: u237 :: u238 :: u239 :: u240 :: u241 :: u242 :: u243 :: u244 :: u245 :: u246 :: u247 :: u248 :: u249 :: u250 :: u251 :: u252 :: u253 :: u254 :: u255 :: u256 :: u257 :: u258 :: u259 :: u260 :: u261 :: u262 :: u263 :: u264 :: u265 :: u266 :: u267 :: u268 :: u269 :: u270 :: u271 :: u272 :: u273 :: u274 :: u275 :: u276 :: u277 :: u278 :: []), []⟩ → C) → C) (4 - 0) ?_ ?_
  · intro C hC
    exact hC _ _ _ _ _ _ _ _ _ _ _ _ _ _ _ _ _ _ _ _ _ _ _ _ _ _ _ _ _ _ _ _ _ _ _ _ _ _ _ _ _ _ _ _ _ _ (0) (fo0) (F0) rfl hI rfl
  · intro gk a V hI'
    refine hI' _ ?_
    intro u19 u20 u21 u22 u23 u170 u171 u172 u173 u174 u175 u176 u177 u178 u179 u180 u181 u182 u183 u184 u185 u186 u187 u188 u189 u190 u191 u192 u193 u194 u195 u196 u197 u198 u199 u200 u201 u202 u203 u204 u205 u206 u207 u208 u209 u210 d fo F hk hinv ha
    subst ha
    subst hk
    refine sxDb _ _ _ _ _ _ _ _ _ _ _ _ _ _ _ _ _ _ _ _ _ _ _ _ _ _ _ _ _ _ _ _ _ _ _ _ _ _ _ _ _ _ _ _ _ _ _ _ _ _ _ _ _ _ _ _ _ _ _ _ _ _ _ _ _ _ _ _ _ _ _ _ _ _ _ _ _ _ _ _ _ _ _ _ _ _ _ _ _ _ _ _ _ _ _ _ _ _ _ _ _ _ _ _ _ _ _ _ _ _ _ _ _ _ _ _ _ _ _ _ _ _ _ _ _ _ _ _ _ _ _ _ _ _ _ _ _ _ _ _ _ _ _ _ _ _ _ _ _ _ _ _ _ _ _ _ _ _ _ _ _ _ _ _ _ _ _ _ _ _ _ _ _ _ _ _ _ _ _ _ _ _ _ _ _ _ _ _ _ _ _ _ _ _ _ _ _ _ _ _ _ _ _ _ _ _ _ _ _ _ _ _ _ _ _ _ _ _ _ _ _ _ _ _ _ _ _ _ _ _ _ _ _ _ _ _ _ _ _ _ _ _ _ _ _ _ _ _ _ _ _ _ _ _ _ _ _ _ _ _ _ _ _ _ _ _ _ _ _ _ _ _ _ _ _ _ hA hdn hn hok hinv (fun v19 v20 v21 v22 v23 v170 v171 v172 v173 v174 v175 v176 v177 v178 v179 v180 v181 v182 v183 v184 v185 v186 v187 v188 v189 v190 v191 v192 v193 v194 v195 v196 v197 v198 v199 v200 v201 v202 v203 v204 v205 v206 v207 v208 v209 v210 fo2 F2 V2 h2 hm => ?_) (fun v19 v20 v21 v22 v23 v170 v171 v172 v173 v174 v175 v176 v177 v178 v179 v180 v181 v182 v183 v184 v185 v186 v187 v188 v189 v190 v191 v192 v193 v194 v195 v196 v197 v198 v199 v200 v201 v202 v203 v204 v205 v206 v207 v208 v209 v210 hx => hX v19 v20 v21 v22 v23 v170 v171 v172 v173 v174 v175 v176 v177 v178 v179 v180 v181 v182 v183 v184 v185 v186 v187 v188 v189 v190 v191 v192 v193 v194 v195 v196 v197 v198 v199 v200 v201 v202 v203 v204 v205 v206 v207 v208 v209 v210 d fo F V hinv hx)
    refine ⟨_, hm, fun C hC => ?_⟩
    exact hC v19 v20 v21 v22 v23 v170 v171 v172 v173 v174 v175 v176 v177 v178 v179 v180 v181 v182 v183 v184 v185 v186 v187 v188 v189 v190 v191 v192 v193 v194 v195 v196 v197 v198 v199 v200 v201 v202 v203 v204 v205 v206 v207 v208 v209 v210 ((d + 1)) (fo2) (F2) rfl h2 rfl
end Go.Proofs.YtiipdhmfdgbmiaaDoor
