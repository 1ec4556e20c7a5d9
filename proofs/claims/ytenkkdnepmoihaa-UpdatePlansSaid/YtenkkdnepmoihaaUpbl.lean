/- Texts put together: UpdatePlansM, UpdatePlansF. -/
import Derived.Test.YtenkkdnepmoihaaUpbk
import Derived.Test.YtenkkdnepmoihaaUpbi
import Derived.Test.YtenkkdnepmoihaaUpbf
import Derived.Test.YtenkkdnepmoihaaUpay
import Derived.Test.YtenkkdnepmoihaaUpal
section
set_option maxRecDepth 20000
set_option linter.unusedVariables false
set_option linter.unusedSimpArgs false
namespace Go.Proofs.Ytenkkdnepmoihaa
open Go.RowKit

theorem fil_at (f : Nat → Bool) (ks : List Nat) {k : Nat} (hk : k < ks.length) (hf : f (ks.getD k 0) = true) : ((ks.take k).filter f).length < (ks.filter f).length ∧ (ks.filter f).getD ((ks.take k).filter f).length 0 = ks.getD k 0 := by
  have e : ks = ks.take k ++ (ks.getD k 0 :: ks.drop (k + 1)) := by
    have h1 : ks.getD k 0 = ks[k] := by simp [hk]
    rw [h1, List.getElem_cons_drop, List.take_append_drop]
  have e2 : ks.filter f = (ks.take k).filter f ++ (ks.getD k 0 :: (ks.drop (k + 1)).filter f) := by
    conv => lhs; rw [e]
    rw [List.filter_append, List.filter_cons_of_pos hf]
  rw [e2]
  exact ⟨by simp, by simp⟩
def dsP (d p : Nat) (q : Int) (k : Nat) : Int := if k = 0 then (d : Int) else if k = 1 then (p : Int) else q
theorem plans_sk {N : Bch} {lv : List Bool} {a : Nat} {full : List (List UInt8)} {d p q D : Nat} {six : Bool} (hD : ∀ j, j < D → srvD N lv j = lv.getD j false) (hd : d < D) (hp : p < D) (hq : six = true → q < D) :
    ∃ cnt : Nat → Nat, cnt 0 = 0 ∧ cnt 3 = (upIts N lv a full (d :: p :: if six = true then [q] else [])).length ∧
    ∀ k, k < 3 → (cnt (k + 1) = cnt k ∧ dsP d p (if six = true then (q : Int) else -1) k < 0) ∨ (cnt (k + 1) = cnt k ∧ ∃ j : Nat, dsP d p (if six = true then (q : Int) else -1) k = (j : Int) ∧ j < D ∧ lv.getD j false = false) ∨ (cnt (k + 1) = cnt k + 1 ∧ ∃ j : Nat, dsP d p (if six = true then (q : Int) else -1) k = (j : Int) ∧ j < D ∧ lv.getD j false = true ∧ cnt k < (upIts N lv a full (d :: p :: if six = true then [q] else [])).length ∧ itN (upIts N lv a full (d :: p :: if six = true then [q] else [])) (cnt k) = ⟨(j : Int), (a : Int), full.getD j []⟩) := by
  obtain ⟨ks, hks⟩ : ∃ ks, (d :: p :: if six = true then [q] else []) = ks := ⟨_, rfl⟩
  have hlen : ks.length = 3 ∨ (ks.length = 2 ∧ six = false) := by
    rw [← hks]; cases six
    · exact .inr ⟨rfl, rfl⟩
    · exact .inl rfl
  have hds : ∀ k, k < ks.length → dsP d p (if six = true then (q : Int) else -1) k = ((ks.getD k 0 : Nat) : Int) ∧ ks.getD k 0 < D := fun k hk => by
    rw [← hks] at hk ⊢
    match k, hk with
    | 0, _ => exact ⟨rfl, hd⟩
    | 1, _ => exact ⟨rfl, hp⟩
    | k + 2, hk =>
      cases h6 : six
      · rw [h6] at hk; simp at hk; omega
      · rw [h6] at hk
        obtain rfl : k = 0 := by simp at hk; omega
        exact ⟨rfl, hq h6⟩
  rw [hks]
  refine ⟨fun k => ((ks.take k).filter (srvD N lv)).length, rfl, ?_, fun k hk => ?_⟩
  · show ((ks.take 3).filter (srvD N lv)).length = _
    rw [List.take_of_length_le (by omega)]; simp [upIts]
  · by_cases hkl : k < ks.length
    · obtain ⟨e1, e2⟩ := hds k hkl
      have ht : ks.take (k + 1) = ks.take k ++ [ks.getD k 0] := by rw [List.take_succ_eq_append_getElem hkl]; simp [hkl]
      cases hs : lv.getD (ks.getD k 0) false
      · refine .inr (.inl ⟨?_, _, e1, e2, hs⟩)
        show ((ks.take (k + 1)).filter (srvD N lv)).length = _
        rw [ht, List.filter_append, List.filter_cons_of_neg (by rw [hD _ e2, hs]; decide)]; simp
      · have hf : srvD N lv (ks.getD k 0) = true := by rw [hD _ e2]; exact hs
        obtain ⟨f1, f2⟩ := fil_at (srvD N lv) ks hkl hf
        refine .inr (.inr ⟨?_, _, e1, e2, hs, ?_, ?_⟩)
        · show ((ks.take (k + 1)).filter (srvD N lv)).length = _
          rw [ht, List.filter_append, List.filter_cons_of_pos hf]; simp
        · show _ < (upIts N lv a full ks).length
          simp only [upIts, List.length_map]; exact f1
        · show itN (upIts N lv a full ks) ((ks.take k).filter (srvD N lv)).length = _
          have : ((ks.filter (srvD N lv)).map fun k : Nat => (⟨(k : Int), (a : Int), full.getD k []⟩ : It))[((ks.take k).filter (srvD N lv)).length]? = some ⟨((ks.getD k 0 : Nat) : Int), (a : Int), full.getD (ks.getD k 0) []⟩ := by
            rw [List.getElem?_map, ← f2]
            simp [f1]
          unfold itN upIts
          simp only [List.getD_eq_getElem?_getD] at this ⊢
          rw [this]; rfl
    · have hk2 : ks.length = 2 ∧ six = false := by rcases hlen with h | h; omega; exact h
      obtain rfl : k = 2 := by omega
      refine .inl ⟨?_, ?_⟩
      · show ((ks.take 3).filter (srvD N lv)).length = ((ks.take 2).filter (srvD N lv)).length
        rw [List.take_of_length_le (by omega), List.take_of_length_le (by omega)]
      · rw [hk2.2]; simp [dsP]
theorem cnt_xs {D : Nat} {lv : List Bool} {old : List (List UInt8)} (h : ∀ i, i < D → (old.getD i []).length = 32) : cntB D (emptyB (xsL lv old D)) = cntB D (fun i => !lv.getD i false) := cntB_congr fun i hi => by
  unfold emptyB
  rw [xsL_get hi]
  cases lv.getD i false
  · rfl
  · simp only [if_true]; rw [h i hi]; rfl
end Go.Proofs.Ytenkkdnepmoihaa
end
section
set_option maxRecDepth 20000
set_option linter.unusedVariables false
set_option linter.unusedSimpArgs false
namespace Go.Proofs.Ytenkkdnepmoihaa
open Go.RowKit

set_option maxRecDepth 100000 in
set_option maxHeartbeats 3200000 in
theorem upF {nn l c : Int} {D F W ρ gb cz : Nat} {A : Option Addr} {zs : List Int} {w : World} (u0 u2 u3 u4 u5 u6 u7 u8 u9 u10 u11 u12 u14 u15 u16 u17 u18 u19 u21 u22 u23 u24 u25 u26 u27 u28 u29 u30 u31 u32 u33 u34 u35 u36 u37 u38 u39 u40 u41 u42 u43 u44 u45 u46 u47 u48 u49 u50 u51 u52 u53 u54 u55 u56 u57 u58 u59 u60 u61 u62 u63 u64 u65 u66 u67 u68 u69 u70 u71 u72 u73 u74 u75 u76 u77 u78 u79 u80 u81 u82 u83 u84 u85 u86 u87 u88 u89 u90 u91 u92 u93 u94 u95 u96 u97 u98 u99 u100 u101 u102 u103 u104 u105 u106 u107 u108 u109 u110 u111 u112 u113 u114 u115 u116 u117 u118 u119 u120 u121 u122 u123 u124 u125 u126 u127 u128 u129 u130 u131 u132 u133 u134 u135 u136 u137 u138 u139 u140 u141 u142 u143 u144 u145 u146 u147 u148 u149 u150 u151 u152 u153 u154 u155 u156 u157 u158 u159 u160 u161 u162 u163 u164 u165 u166 u167 u168 u169 u170 u171 u172 u173 u174 u175 u176 u177 u178 u179 u180 u181 u182 u183 u184 u185 u186 u187 u188 u189 u190 u191 u192 u193 u194 u195 u196 u197 u198 u199 u200 u201 u202 u203 u204 u205 u206 u207 u208 u209 u210 u211 u212 u213 u214 u215 u216 u217 u218 u219 u220 u221 u222 u223 u224 u225 u226 u227 u228 u229 u230 u231 u232 u233 u234 u235 u236 u237 u238 u239 u240 u241 u242 u243 u244 u245 u246 u247 u248 u249 u250 u251 u252 u253 u254 u255 u256 u257 u258 u259 u260 u261 u262 u263 u264 u265 u266 u267 u268 u269 u270 u271 u272 u273 u274 u275 u276 u277 u278 : Value) (K : Act → World → Prop) (Q0 : Exit → Act → World → Prop) (gr : Gr nn l c (ρ : Int) D F W) (G : GAt w gb l (D : Int) c) (hgb : gb < w.heap.size) (hz : RdZ w w.heap.size A zs) (hcz : zs.length ≤ cz) (hρ : ρ ≤ 1000)
    (hK : ∀ (v24 v113 v114 v115 v116 v117 v118 v119 v120 v121 v122 : Value) (go : Nat) (V : World), Below w.heap.size w V → RdR V V.heap.size (some ⟨go, 0, none⟩) (fillL D F (datL zs ρ W)) → K ⟨List.toArray (u0 :: (.slice A zs.length cz) :: u2 :: u3 :: u4 :: u5 :: u6 :: u7 :: u8 :: u9 :: u10 :: u11 :: u12 :: (.pointer (some ⟨gb, 0, none⟩)) :: u14 :: u15 :: u16 :: u17 :: u18 :: u19 :: (.int .i64 (ρ : Int)) :: u21 :: u22 :: (.slice (some ⟨go, 0, none⟩) D D) :: v24 :: u25 :: u26 :: u27 :: u28 :: u29 :: u30 :: u31 :: u32 :: u33 :: u34 :: u35 :: u36 :: u37 :: u38 :: u39 :: u40 :: u41 :: u42 :: u43 :: u44 :: u45 :: u46 :: u47 :: u48 :: u49 :: u50 :: u51 :: u52 :: u53 :: u54 :: u55 :: u56 :: u57 :: u58 :: u59 :: u60 :: u61 :: u62 :: u63 :: u64 :: u65 :: u66 :: u67 :: u68 :: u69 :: u70 :: u71 :: u72 :: u73 :: u74 :: u75 :: u76 :: u77 :: u78 :: u79 :: u80 :: u81 :: u82 :: u83 :: u84 :: u85 :: u86 :: u87 :: u88 :: u89 :: u90 :: u91 :: u92 :: u93 :: u94 :: u95 :: u96 :: u97 :: u98 :: u99 :: u100 :: u101 :: u102 :: u103 :: u104 :: u105 :: u106 :: u107 :: u108 :: u109 :: u110 :: u111 :: u112 :: v113 :: v114 :: v115 :: v116 :: v117 :: v118 :: v119 :: v120 :: v121 :: v122 :: u123 :: u124 :: u125 :: u126 :: u127 :: u128 :: u129 :: u130 :: u131 :: u132 :: u133 :: u134 :: u135 :: u136 :: u137 :: u138 :: u139 :: u140 :: u141 :: u142 :: u143 :: u144 :: u145 :: u146 :: u147 :: u148 :: u149 :: u150 :: u151 :: u152 :: u153 :: u154 :: u155 :: u156 :: u157 :: u158 :: u159 :: u160 :: u161 :: u162 :: u163 :: u164 :: u165 :: u166 :: u167 :: u168 :: u169 :: u170 :: u171 :: u172 :: u173 :: u174 :: u175 :: u176 :: u177 :: u178 :: u179 :: u180 :: u181 :: u182 :: u183 :: u184 :: u185 :: u186 :: u187 :: u188 :: u189 :: u190 :: u191 :: u192 :: u193 :: u194 :: u195 :: u196 :: u197 :: u198 :: u199 :: u200 :: u201 :: u202 :: u203 :: u204 :: u205 :: u206 :: u207 :: u208 :: u209 :: u210 :: u211 :: u212 :: u213 :: u214 :: u215 :: u216 :: u217 :: u218 :: u219 :: u220 :: u221 :: u222 :: u223 :: u224 :: u225 :: u226 :: u227 :: u228 :: u229 :: u230 :: u231 :: u232 :: u233 :: u234 :: u235 :: u236 :: u237 :: u238 :: u239 :: u240 :: u241 :: u242 :: u243 :: u244 :: u245 :: u246 :: u247 :: u248 :: u249 :: u250 :: u251 :: u252 :: u253 :: u254 :: u255 :: u256 :: u257 :: u258 :: u259 :: u260 :: u261 :: u262 :: u263 :: u264 :: u265 :: u266 :: u267 :: u268 :: u269 :: u270 :: u271 :: u272 :: u273 :: u274 :: u275 :: u276 :: u277 :: u278 :: []), []⟩ V) :
    Code.wp Try.prog (sub [1, 1, 1, 1, 1, 1, 1, 1, 1, 1, 1, 1, 0] codeUP) (Exit.then K Q0) ⟨List.toArray (u0 :: (.slice A zs.length cz) :: u2 :: u3 :: u4 :: u5 :: u6 :: u7 :: u8 :: u9 :: u10 :: u11 :: u12 :: (.pointer (some ⟨gb, 0, none⟩)) :: u14 :: u15 :: u16 :: u17 :: u18 :: u19 :: (.int .i64 (ρ : Int)) :: u21 :: u22 :: u23 :: u24 :: u25 :: u26 :: u27 :: u28 :: u29 :: u30 :: u31 :: u32 :: u33 :: u34 :: u35 :: u36 :: u37 :: u38 :: u39 :: u40 :: u41 :: u42 :: u43 :: u44 :: u45 :: u46 :: u47 :: u48 :: u49 :: u50 :: u51 :: u52 :: u53 :: u54 :: u55 :: u56 :: u57 :: u58 :: u59 :: u60 :: u61 :: u62 :: u63 :: u64 :: u65 :: u66 :: u67 :: u68 :: u69 :: u70 :: u71 :: u72 :: u73 :: u74 :: u75 :: u76 :: u77 :: u78 :: u79 :: u80 :: u81 :: u82 :: u83 :: u84 :: u85 :: u86 :: u87 :: u88 :: u89 :: u90 :: u91 :: u92 :: u93 :: u94 :: u95 :: u96 :: u97 :: u98 :: u99 :: u100 :: u101 :: u102 :: u103 :: u104 :: u105 :: u106 :: u107 :: u108 :: u109 :: u110 :: u111 :: u112 :: u113 :: u114 :: u115 :: u116 :: u117 :: u118 :: u119 :: u120 :: u121 :: u122 :: u123 :: u124 :: u125 :: u126 :: u127 :: u128 :: u129 :: u130 :: u131 :: u132 :: u133 :: u134 :: u135 :: u136 :: u137 :: u138 :: u139 :: u140 :: u141 :: u142 :: u143 :: u144 :: u145 :: u146 :: u147 :: u148 :: u149 :: u150 :: u151 :: u152 :: u153 :: u154 :: u155 :: u156 :: u157 :: u158 :: u159 :: u160 :: u161 :: u162 :: u163 :: u164 :: u165 :: u166 :: u167 :: u168 :: u169 :: u170 :: u171 :: u172 :: u173 :: u174 :: u175 :: u176 :: u177 :: u178 :: u179 :: u180 :: u181 :: u182 :: u183 :: u184 :: u185 :: u186 :: u187 :: u188 :: u189 :: u190 :: u191 :: u192 :: u193 :: u194 :: u195 :: u196 :: u197 :: u198 :: u199 :: u200 :: u201 :: u202 :: u203 :: u204 :: u205 :: u206 :: u207 :: u208 :: u209 :: u210 :: u211 :: u212 :: u213 :: u214 :: u215 :: u216 :: u217 :: u218 :: u219 :: u220 :: u221 :: u222 :: u223 :: u224 :: u225 :: u226 :: u227 :: u228 :: u229 :: u230 :: u231 :: u232 :: u233 :: u234 :: u235 :: u236 :: u237 :: u238 :: u239 :: u240 :: u241 :: u242 :: u243 :: u244 :: u245 :: u246 :: u247 :: u248 :: u249 :: u250 :: u251 :: u252 :: u253 :: u254 :: u255 :: u256 :: u257 :: u258 :: u259 :: u260 :: u261 :: u262 :: u263 :: u264 :: u265 :: u266 :: u267 :: u268 :: u269 :: u270 :: u271 :: u272 :: u273 :: u274 :: u275 :: u276 :: u277 :: u278 :: []), []⟩ w := by
  have HK := Lib.hid hK
  clear hK
  conv => arg 2; whnf
  have hd8 := gr.d8
  have hw7 := gr.w7
  have CDt := Lib.hid (fun (V : World) (hb : Below w.heap.size w V) => data_any gr ρ hρ A zs zs.length cz V rfl hcz ((hz.below hb (Nat.le_refl _)).keep hb.size fun _ _ => rfl))
  refine wp_region_noPanic (region_ord 12 [] (fun V => GAt V gb l (D : Int) c ∧ Below w.heap.size w V) (by kernel_rfl) (by kernel_rfl) (fun _ _ _ _ _ h => h) fun R => ?_)
  change anyI _ _ _ _ _ _ 12 _ _ w.drew
  have HS0 := Lib.hid (show (fun V => GAt V gb l (D : Int) c ∧ Below w.heap.size w V) w.drew from ⟨GAt.below G (Below.refl _ w).drew hgb, (Below.refl _ w).drew⟩)
  refine' anyI_take R 0 rfl (v := ?_) (by kernel_rfl) (by rfl) (fun V hV => ?hy) HS0.out ?_
  case hy => ((try dsimp only at hV);  obtain ⟨⟨y0, y1, y2⟩, _⟩ := hV; go_simp; try with_reducible rfl)
  try simp only [Act.put, List.getElem_toArray, List.getElem_cons_succ, List.getElem_cons_zero, List.setIfInBounds_toArray, List.set_cons_zero, List.set_cons_succ]
  refine' anyI_take R 1 rfl (v := ?_) (by kernel_rfl) (by rfl) (fun V hV => ?hy) HS0.out ?_
  case hy => ((try dsimp only at hV);  obtain ⟨⟨y0, y1, y2⟩, _⟩ := hV; go_simp; try with_reducible rfl)
  try simp only [Act.put, List.getElem_toArray, List.getElem_cons_succ, List.getElem_cons_zero, List.setIfInBounds_toArray, List.set_cons_zero, List.set_cons_succ]
  refine' anyI_take R 2 rfl (v := ?_) (by kernel_rfl) (by rfl) (fun V hV => ?hy) HS0.out ?_
  case hy => ((try dsimp only at hV);  obtain ⟨⟨y0, y1, y2⟩, _⟩ := hV; go_simp; try with_reducible rfl)
  try simp only [Act.put, List.getElem_toArray, List.getElem_cons_succ, List.getElem_cons_zero, List.setIfInBounds_toArray, List.set_cons_zero, List.set_cons_succ]
  refine' anyI_take R 3 rfl (v := ?_) (by kernel_rfl) (by rfl) (fun V hV => ?hy) HS0.out ?_
  case hy => ((try dsimp only at hV);  obtain ⟨⟨y0, y1, y2⟩, _⟩ := hV; go_simp; try with_reducible rfl)
  try simp only [Act.put, List.getElem_toArray, List.getElem_cons_succ, List.getElem_cons_zero, List.setIfInBounds_toArray, List.set_cons_zero, List.set_cons_succ]
  refine' anyI_take R 4 rfl (v := ?_) (by kernel_rfl) (by rfl) (fun V hV => ?hy) HS0.out ?_
  case hy => ((try dsimp only at hV);  obtain ⟨⟨y0, y1, y2⟩, _⟩ := hV; go_simp; try with_reducible rfl)
  try simp only [Act.put, List.getElem_toArray, List.getElem_cons_succ, List.getElem_cons_zero, List.setIfInBounds_toArray, List.set_cons_zero, List.set_cons_succ]
  refine anyI_one 5 (by kernel_rfl) rfl ?_
  try simp only [List.getElem_toArray, List.getElem_cons_succ, List.getElem_cons_zero]
  refine opE_step ?_
  rw [if_pos (by rfl)]
  go_simp
  go_at_call 14
  (with_reducible refine (CDt.out _ HS0.out.2).mono ?_)
  rintro e wd ⟨vd, rfl, hod, hbd⟩
  obtain ⟨Ad, cd, hv, _, hrdd⟩ := hod.rd (by rw [datL_len]; omega)
  rw [datL_len] at hv
  subst hv
  have Bd := Lib.hid (HS0.out.2.trans (hbd.mono HS0.out.2.size))
  replace HS0 := Lib.hid (show (fun V => GAt V gb l (D : Int) c ∧ Below w.heap.size w V) wd from ⟨GAt.below HS0.out.1 hbd (by have := HS0.out.2.size; omega), Bd.out⟩)
  have CF := (refFill_yes Ad (datL zs ρ W) W cd l (D : Int) c (ρ : Int) wd (datL_len _ _ _) hrdd (gr.fok (datL_len _ _ _) datL_mem) gr.l64 gr.d64 gr.c64 gr.r64)
  rw [gr.eD, gr.eF] at CF
  unfold FillYes at CF
  rw [fillL_len] at CF
  replace CF := Lib.hid CF
  clear hod hbd hrdd
  try dsimp only
  refine ⟨HS0.out, ?_⟩
  try simp only [Act.put, List.getElem_toArray, List.getElem_cons_succ, List.getElem_cons_zero, List.setIfInBounds_toArray, List.set_cons_zero, List.set_cons_succ]
  refine anyI_one 6 (by kernel_rfl) rfl ?_
  try simp only [List.getElem_toArray, List.getElem_cons_succ, List.getElem_cons_zero]
  refine opE_step ?_
  rw [if_pos (by rfl)]
  go_simp
  go_at_call 13
  (with_reducible refine CF.out.mono ?_)
  rintro e wf ⟨go, xsf, rfl, hqf, hbf⟩
  have Bf := Lib.hid (Bd.out.trans (hbf.mono Bd.out.size))
  replace HS0 := Lib.hid (show (fun V => GAt V gb l (D : Int) c ∧ Below w.heap.size w V) wf from ⟨GAt.below HS0.out.1 hbf (by have := Bd.out.size; omega), Bf.out⟩)
  have HQf := Lib.hid (hqf.owr.rdr (by omega))
  clear hqf hbf
  try dsimp only
  refine ⟨HS0.out, ?_⟩
  try simp only [Act.put, List.getElem_toArray, List.getElem_cons_succ, List.getElem_cons_zero, List.setIfInBounds_toArray, List.set_cons_zero, List.set_cons_succ]
  refine' anyI_take R 7 rfl (v := ?_) (by kernel_rfl) (by rfl) (fun V hV => ?hy) HS0.out ?_
  case hy => ((try dsimp only at hV);  obtain ⟨⟨y0, y1, y2⟩, _⟩ := hV; go_simp; try with_reducible rfl)
  try simp only [Act.put, List.getElem_toArray, List.getElem_cons_succ, List.getElem_cons_zero, List.setIfInBounds_toArray, List.set_cons_zero, List.set_cons_succ]
  refine' anyI_take R 8 rfl (v := ?_) (by kernel_rfl) (by rfl) (fun V hV => ?hy) HS0.out ?_
  case hy => ((try dsimp only at hV);  obtain ⟨⟨y0, y1, y2⟩, _⟩ := hV; go_simp; try with_reducible rfl)
  try simp only [Act.put, List.getElem_toArray, List.getElem_cons_succ, List.getElem_cons_zero, List.setIfInBounds_toArray, List.set_cons_zero, List.set_cons_succ]
  refine' anyI_take R 9 rfl (v := ?_) (by kernel_rfl) (by rfl) (fun V hV => ?hy) HS0.out ?_
  case hy => ((try dsimp only at hV);  obtain ⟨⟨y0, y1, y2⟩, _⟩ := hV; go_simp; try with_reducible rfl)
  try simp only [Act.put, List.getElem_toArray, List.getElem_cons_succ, List.getElem_cons_zero, List.setIfInBounds_toArray, List.set_cons_zero, List.set_cons_succ]
  refine' anyI_take R 10 rfl (v := ?_) (by kernel_rfl) (by rfl) (fun V hV => ?hy) HS0.out ?_
  case hy => ((try dsimp only at hV);  obtain ⟨⟨y0, y1, y2⟩, _⟩ := hV; go_simp; try with_reducible rfl)
  try simp only [Act.put, List.getElem_toArray, List.getElem_cons_succ, List.getElem_cons_zero, List.setIfInBounds_toArray, List.set_cons_zero, List.set_cons_succ]
  refine' anyI_take R 11 rfl (v := ?_) (by kernel_rfl) (by rfl) (fun V hV => ?hy) HS0.out ?_
  case hy => ((try dsimp only at hV);  obtain ⟨⟨y0, y1, y2⟩, _⟩ := hV; go_simp; try with_reducible rfl)
  try simp only [Act.put, List.getElem_toArray, List.getElem_cons_succ, List.getElem_cons_zero, List.setIfInBounds_toArray, List.set_cons_zero, List.set_cons_succ]
  refine anyI_tail (by kernel_rfl) ?_
  try simp only [List.drop_succ_cons, List.drop_zero]
  clear R
  go_wp2_with fail
  refine NoPanic.normal ?_
  exact HK.out _ _ _ _ _ _ _ _ _ _ _ go wf Bf.out HQf.out
end Go.Proofs.Ytenkkdnepmoihaa
end
