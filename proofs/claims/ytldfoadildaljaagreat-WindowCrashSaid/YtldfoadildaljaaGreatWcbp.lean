/- Texts put together: WinCrashP, WindowCrashLoops. -/
import Derived.Test.YtldfoadildaljaaGreatWcbo
import Derived.Test.YtldfoadildaljaaGreatWcbn
import Derived.Test.YtldfoadildaljaaGreatWcay
import Derived.Test.YtldfoadildaljaaGreatWcbl
import Derived.Test.YtldfoadildaljaaGreatWcbi
import Derived.Test.YtldfoadildaljaaGreatWcbh
import Derived.Test.YtldfoadildaljaaGreatWcbg
import Derived.Test.YtldfoadildaljaaGreatWcaj
import Derived.Test.YtldfoadildaljaaGreatWcat
section
set_option maxRecDepth 20000
set_option linter.unusedVariables false
set_option linter.unusedSimpArgs false
namespace Go.Proofs.YtldfoadildaljaaGreat

theorem wl_32 {l d c : Int} (hg : gOk l d c = true) {rs : Nat → List (List UInt8)} (hr : ∀ t, t < 16 → (rs t).length = roW l d ∧ ∀ x ∈ rs t, x.length = 32) {fr : Int} (h0 : 0 ≤ fr) {m : Nat} : ∀ x ∈ wlist (gCap l d c) (valOf l d c rs) fr m, x.length = 32 := fun x hx => by
  obtain ⟨j, hj, rfl⟩ := List.mem_map.1 hx
  unfold upTo
  split
  · next h1 =>
    obtain ⟨o1, o2, o3, o4, _, _⟩ := of_row hg (show 0 ≤ fr + (j : Int) by omega) h1
    obtain ⟨r1, r2⟩ := hr (plRow l d c (fr + (j : Int))).toNat (by omega)
    unfold valOf
    have hq : kOf l d c (fr + (j : Int)) < (rs (plRow l d c (fr + (j : Int))).toNat).length := by rw [r1]; unfold kOf roW; omega
    rw [List.getD_eq_getElem?_getD, List.getElem?_eq_getElem hq]
    exact r2 _ (List.getElem_mem _)
  · rfl
/-- A bench on the way: no disk lost, the rows below s moved. -/
structure WcI (N : Bch) (D' : Nat) (l : Int) (D : Nat) (c l' c' : Int) (rs : Nat → List (List UInt8)) (s : Int) : Prop where
  mv : Mv N D' (liveL 0 D') l (D : Int) c l' (D' : Int) c' rs s
  f : ∀ i, i < D' → (N.D i).f = false
section
variable {N : Bch} {l c l' c' R Wn wa wb : Int} {D D' : Nat} {rs : Nat → List (List UInt8)} {k : Int}
theorem WcI.ps {s : Int} (h : WcI N D' l D c l' c' rs s) : ∀ i, i < N.n → (N.D i).ps.length ≤ 1999000 := fun i hi => by
  rw [h.mv.wg.ps i (by rw [← h.mv.wg.n]; exact hi)]; exact Nat.zero_le _
theorem WcI.srv {s : Int} (h : WcI N D' l D c l' c' rs s) {i : Nat} (hi : i < D') : srvD N (liveL 0 D') i = true := srvD_mk (by rw [h.mv.wg.n]; exact hi) (live0 hi) (h.f i hi)
theorem Fld.wc {zs : List Int} (h : Fld N D' D (rowL l c D (roW l (D : Int)) zs) 16 0) : WcI N D' l D c l' c' (fun t => datL zs t (roW l (D : Int))) 0 := ⟨⟨h.gd.wg, fun t ht i hi hs => by
  have hlt : ¬ (t : Int) < 0 := by omega
  have hi' : (i : Int) < (D : Int) := by
    have : (i : Int) < rg _ _ _ t := hi
    rw [rg_ge hlt] at this
    exact this
  rw [h.all (by omega) ht]
  unfold flR mvR RG.D RG.L RG.C
  dsimp only
  rw [rg_ge hlt, rg_ge hlt, rg_ge hlt, if_neg hlt, show roD (D : Int) = D by unfold roD; omega]
  rfl⟩, h.gd.f⟩
theorem WcI.read (P : Pn l (D : Int) c l' (D' : Int) c' R Wn wa wb) (hDD : D ≤ D') (h : WcI N D' l D c l' c' rs (k * R)) (k0 : 0 ≤ k) (k1 : k < Wn) (hr : ∀ t, t < 16 → (rs t).length = roW l (D : Int) ∧ ∀ x ∈ rs t, x.length = 32) :
    wrdS N (liveL 0 D') l (D : Int) c l' (D' : Int) c' k = (0, wlist (gCap l (D : Int) c) (valOf l (D : Int) c rs) (k * (R * wb)) (R * wb).toNat) := by
  refine (h.mv.read P k0 k1 hr).2 ?_
  have hb := gOk_bd P.a
  have e : cntB ((D : Int)).toNat (fun i => !srvD N (liveL 0 D') i) = 0 := by
    unfold cntB
    rw [List.filter_eq_nil_iff.2 fun i hi => by rw [h.srv (by have := List.mem_range.1 hi; omega)]; decide]
    rfl
  rw [e]; omega
theorem WcI.step (P : Pn l (D : Int) c l' (D' : Int) c' R Wn wa wb) (h : WcI N D' l D c l' c' rs (k * R)) (k0 : 0 ≤ k) (k1 : k < Wn) (hr : ∀ t, t < 16 → (rs t).length = roW l (D : Int) ∧ ∀ x ∈ rs t, x.length = 32) :
    ∃ N', wwrS N (liveL 0 D') l (D : Int) c l' (D' : Int) c' k (wlist (gCap l (D : Int) c) (valOf l (D : Int) c rs) (k * (R * wb)) (R * wb).toNat) = (0, N') ∧ WcI N' D' l D c l' c' rs ((k + 1) * R) ∧ N'.done ≤ N.done + 32 := by
  obtain ⟨e, h1, h2⟩ := h.mv.write P k0 k1 hr
  have hd := wwrS_done (N := N) (lv := liveL 0 D') (l := l) (d := (D : Int)) (c := c) (l' := l') (d' := (D' : Int)) (c' := c') (k := k) (ds := wlist (gCap l (D : Int) c) (valOf l (D : Int) c rs) (k * (R * wb)) (R * wb).toNat)
  have hb := gOk_bd P.b
  have hrw := P.rows
  rw [P.eR] at hd
  have e2 : R.toNat * roD (D' : Int) ≤ 4 * 8 := Nat.mul_le_mul (by omega) (by unfold roD; omega)
  generalize wwrS N (liveL 0 D') l (D : Int) c l' (D' : Int) c' k (wlist (gCap l (D : Int) c) (valOf l (D : Int) c rs) (k * (R * wb)) (R * wb).toNat) = r at e h1 h2 hd
  obtain ⟨x, N'⟩ := r
  dsimp only at e h1 h2 hd
  subst e
  exact ⟨N', rfl, ⟨h1, fun i hi => (h2.f i).trans (h.f i hi)⟩, by omega⟩
theorem wwrTo_bd' {lv : List Bool} {r0 fr : Int} {ds : List (List UInt8)} (i : Nat) : ∀ j, ((wwrTo N lv l' (D' : Int) c' r0 fr ds j).2.D i).ps.length ≤ (N.D i).ps.length + j * D'
  | 0 => by rw [Nat.zero_mul]; exact Nat.le_refl _
  | j + 1 => by
    have h1 := wwrTo_bd' (lv := lv) (r0 := r0) (fr := fr) (ds := ds) i j
    have e : (j + 1) * D' = j * D' + D' := Nat.succ_mul _ _
    rw [wwrTo]
    split
    · omega
    · unfold swrS
      split
      · dsimp only; omega
      · have e1 := swTo_pend (lv := lv) (a := 36 + (r0 + (j : Int)).toNat) (xs := fillL (roD (D' : Int)) (roF l' (D' : Int) c' (r0 + (j : Int))) (wrow l' (D' : Int) c' (r0 + (j : Int)) fr ds)) (N := (wwrTo N lv l' (D' : Int) c' r0 fr ds j).2) i (roD (D' : Int))
        have e3 : roD (D' : Int) = D' := by unfold roD; omega
        rw [e3] at e1 ⊢
        omega
theorem sflS_pend {lv : List Bool} (i : Nat) : ((sflS N lv).2.D i).ps.length ≤ (N.D i).ps.length :=
  onTo_any (fun M => (M.D i).ps.length ≤ (N.D i).ps.length) (Nat.le_refl _) (fun M j h => by
    refine Nat.le_trans ?_ h
    show ((M.flush (j : Int)).D i).ps.length ≤ _
    unfold Bch.flush
    split
    · exact Nat.le_refl _
    · show (upd M.D _ _ i).ps.length ≤ _
      by_cases q : i = ((j : Int)).toNat
      · rw [q, upd_same]
        show (Dsk.flushE (M.D ((j : Int)).toNat)).ps.length ≤ _
        unfold Dsk.flushE; split
        · exact Nat.le_refl _
        · exact Nat.zero_le _
      · rw [upd_other _ _ q]; exact Nat.le_refl _) _
theorem wwrS_pend {lv : List Bool} {d : Int} {ds : List (List UInt8)} (i : Nat) : ((wwrS N lv l d c l' (D' : Int) c' k ds).2.D i).ps.length ≤ (N.D i).ps.length + (pnR l d c l' (D' : Int) c').toNat * D' := by
  unfold wwrS
  split
  · exact Nat.le_add_right _ _
  · split
    · exact wwrTo_bd' i _
    · exact Nat.le_trans (sflS_pend i) (wwrTo_bd' i _)
/-- A write cut off, a crash, and the write again. -/
theorem WcI.cut (P : Pn l (D : Int) c l' (D' : Int) c' R Wn wa wb) (h : WcI N D' l D c l' c' rs (k * R)) {v : Int} (hv : 0 ≤ v) (k0 : 0 ≤ k) (k1 : k < Wn) (hr : ∀ t, t < 16 → (rs t).length = roW l (D : Int) ∧ ∀ x ∈ rs t, x.length = 32) (ks : List Bool) :
    ∃ e M, wwrS (N.limit v) (liveL 0 D') l (D : Int) c l' (D' : Int) c' k (wlist (gCap l (D : Int) c) (valOf l (D : Int) c rs) (k * (R * wb)) (R * wb).toNat) = (e, M) ∧ ((e = 0 ∧ M.down = false) ∨ (e = 6 ∧ M.down = true)) ∧ M.n = D' ∧ (∀ i, i < M.n → (M.D i).ps.length ≤ 2000000) ∧ M.done ≤ N.done + 32 ∧
      (∀ i, i < (M.crash ks).n → ((M.crash ks).D i).ps.length ≤ 1999000) ∧
      ∃ N', wwrS (M.crash ks) (liveL 0 D') l (D : Int) c l' (D' : Int) c' k (wlist (gCap l (D : Int) c) (valOf l (D : Int) c rs) (k * (R * wb)) (R * wb).toNat) = (0, N') ∧ WcI N' D' l D c l' c' rs ((k + 1) * R) ∧ N'.done ≤ N.done + 64 := by
  have hb := gOk_bd P.b
  have hrw := P.rows
  have hnb := P.n_bd
  have hk0 : 0 ≤ k * (R * wb) := Int.mul_nonneg k0 (by omega)
  have hlen : ((wlist (gCap l (D : Int) c) (valOf l (D : Int) c rs) (k * (R * wb)) (R * wb).toNat).length : Int) = R * wb := by rw [wlist_len]; omega
  obtain ⟨h1, h2, h3⟩ := h.mv.cut P (lv := liveL 0 D') hv k0 k1 hlen (wl_32 P.a hr hk0) ks
  obtain ⟨_, hcn⟩ := P.cut (lv := liveL 0 D') h.mv.wg hv k0 k1 hlen (wl_32 P.a hr hk0)
  have hd := wwrS_done (N := N.limit v) (lv := liveL 0 D') (l := l) (d := (D : Int)) (c := c) (l' := l') (d' := (D' : Int)) (c' := c') (k := k) (ds := wlist (gCap l (D : Int) c) (valOf l (D : Int) c rs) (k * (R * wb)) (R * wb).toNat)
  have hp := fun i => wwrS_pend (N := N.limit v) (lv := liveL 0 D') (l := l) (d := (D : Int)) (c := c) (l' := l') (D' := D') (c' := c') (k := k) (ds := wlist (gCap l (D : Int) c) (valOf l (D : Int) c rs) (k * (R * wb)) (R * wb).toNat) i
  obtain ⟨q1, q2, q3, q4, q5⟩ := limit_all (N := N) h.mv.wg.dn hv
  rw [P.eR, q4] at hd
  have e2 : R.toNat * roD (D' : Int) ≤ 4 * 8 := Nat.mul_le_mul (by omega) (by unfold roD; omega)
  have e3 : R.toNat * D' ≤ 4 * 8 := Nat.mul_le_mul (by omega) (by omega)
  simp only [P.eR, q3] at hp
  obtain ⟨w1, w2, w3⟩ := h2.write P k0 k1 hr
  have hd2 := wwrS_done (N := (wwrS (N.limit v) (liveL 0 D') l (D : Int) c l' (D' : Int) c' k (wlist (gCap l (D : Int) c) (valOf l (D : Int) c rs) (k * (R * wb)) (R * wb).toNat)).2.crash ks) (lv := liveL 0 D') (l := l) (d := (D : Int)) (c := c) (l' := l') (d' := (D' : Int)) (c' := c') (k := k) (ds := wlist (gCap l (D : Int) c) (valOf l (D : Int) c rs) (k * (R * wb)) (R * wb).toNat)
  rw [P.eR, (crash_up _ ks).2.2] at hd2
  generalize wwrS (N.limit v) (liveL 0 D') l (D : Int) c l' (D' : Int) c' k (wlist (gCap l (D : Int) c) (valOf l (D : Int) c rs) (k * (R * wb)) (R * wb).toNat) = r at h1 h2 h3 hcn hd hp w1 w2 w3 hd2 ⊢
  obtain ⟨x, M⟩ := r
  dsimp only at h1 h2 h3 hcn hd hp w1 w2 w3 hd2
  have hMn : M.n = D' := hcn.n.trans h.mv.wg.n
  refine ⟨x, M, rfl, h1, hMn, fun i hi => ?_, by omega, fun i hi => ?_, ?_⟩
  · have h4 := hp i
    rw [h.mv.wg.ps i (by omega)] at h4
    have e5 : ([] : List (Nat × List UInt8)).length = 0 := rfl
    omega
  · rw [h2.wg.ps i (by rw [← h2.wg.n]; exact hi)]; exact Nat.zero_le _
  generalize wwrS (M.crash ks) (liveL 0 D') l (D : Int) c l' (D' : Int) c' k (wlist (gCap l (D : Int) c) (valOf l (D : Int) c rs) (k * (R * wb)) (R * wb).toNat) = r2 at w1 w2 w3 hd2 ⊢
  obtain ⟨y, N'⟩ := r2
  dsimp only at w1 w2 w3 hd2
  subst w1
  exact ⟨N', rfl, ⟨w2, fun i hi => (w3.f i).trans ((h3 i hi).trans (h.f i hi))⟩, by omega⟩
end
end Go.Proofs.YtldfoadildaljaaGreat
end
section
set_option maxRecDepth 20000
set_option linter.unusedVariables false
set_option linter.unusedSimpArgs false
namespace Go.Proofs.YtldfoadildaljaaGreat
open Go.RowKit

noncomputable def codeWC : Code := Tryz.f3.body.getD .skip
set_option maxRecDepth 100000 in
set_option maxHeartbeats 3200000 in
theorem wcNb {W0 : World} {n0 l c : Int} {D F W ρ b ga gn cn q i fr cz : Nat} {A : Option Addr} {zs : List Int} {curn : Array Value} {KL : List (Nat × Obj)} {RL : List (Option Addr × List (List UInt8))} {H : BH} {M : Bch} {cx : Nat} {Aw : Option Addr} {cw : Nat} {w : World} (u0 u1 u3 u4 u5 u6 u7 u8 u9 u10 u11 u12 u14 u15 u16 u17 u18 u19 u20 u21 u22 u23 u24 u25 u27 u30 u32 u33 u34 u35 u36 u37 u38 u39 u40 u41 u42 u43 u44 u45 u46 u47 u48 u49 u50 u51 u52 u53 u54 u55 u56 u57 u58 u59 u60 u61 u62 u63 u64 u65 u66 u67 u68 u69 u70 u71 u72 u73 u74 u75 u76 u77 u78 u79 u80 u81 u82 u83 u84 u85 u86 u87 u88 u89 u90 u91 u92 u93 u94 u95 u96 u97 u98 u99 u100 u101 u102 u103 u104 u105 u106 u107 u108 u109 u110 u111 u112 u113 u114 u115 u116 u117 u118 u119 u120 u121 u122 u123 u124 u125 u126 u127 u128 u129 u130 u131 u132 u133 u134 u135 u136 u137 u138 u139 u140 u141 u142 u143 u144 u145 u146 u147 u148 u149 u150 u151 u152 u153 u154 u155 u156 u157 u158 u159 u160 u161 u162 u163 u164 u165 u166 u167 u168 u169 u170 u171 u172 u173 u174 u175 u176 u177 u178 u179 u180 u181 u182 u183 u184 u188 u189 u190 u191 u192 u193 u194 u195 u196 u197 u198 u199 u200 u201 u202 u203 u204 u205 u206 u207 u208 u209 u210 u211 u212 u213 u214 u215 u216 u217 u218 u219 u220 u221 : Value) (K : Act → World → Prop) (Q0 : Exit → Act → World → Prop) (gr : Gr n0 l c (ρ : Int) D F W) (hρ : ρ < 16) (hcz : zs.length ≤ cz) (hz : RdZ W0 W0.heap.size A zs) (hG : (ga, Obj.cells #[.int .i64 l, .int .i64 (D : Int), .int .i64 c] 25 (0, 0)) ∈ KL) (hN : (gn, Obj.cells curn 3 (0, 0)) ∈ KL) (hcur : ∀ k, k < W → curn[k]? = some (.int .i64 (plN l (D : Int) c (ρ : Int) (k : Int)))) (hq : q < W) (hnum : plN l (D : Int) c (ρ : Int) (q : Int) = (fr : Int) + (i : Int)) (hbd : fr + i ≤ 1000) (hI : (cx ≤ W ∧ KS W0 w b H M KL RL [(Aw, wnB zs ρ W q cx)]))
    (hK : ∀ (v33 v34 v188 v189 v190 v191 v192 v193 v194 v195 v196 v197 v198 v199 v200 v201 v202 v203 v204 : Value) (Aw2 : Option Addr) (cw2 : Nat) (V : World), ((cx + 1) ≤ W ∧ KS W0 V b H M KL RL [(Aw2, wnB zs ρ W q (cx + 1))]) → W - (cx + 1) < W - cx → K ⟨List.toArray (u0 :: u1 :: (.slice A zs.length cz) :: u3 :: u4 :: u5 :: u6 :: u7 :: u8 :: u9 :: u10 :: u11 :: u12 :: (.pointer (some ⟨ga, 0, none⟩)) :: u14 :: u15 :: u16 :: u17 :: u18 :: u19 :: u20 :: u21 :: u22 :: u23 :: u24 :: u25 :: (.int .i64 (fr : Int)) :: u27 :: (.int .i64 (i : Int)) :: (.slice Aw2 32 cw2) :: u30 :: (.int .i64 (ρ : Int)) :: u32 :: v33 :: v34 :: u35 :: u36 :: u37 :: u38 :: u39 :: u40 :: u41 :: u42 :: u43 :: u44 :: u45 :: u46 :: u47 :: u48 :: u49 :: u50 :: u51 :: u52 :: u53 :: u54 :: u55 :: u56 :: u57 :: u58 :: u59 :: u60 :: u61 :: u62 :: u63 :: u64 :: u65 :: u66 :: u67 :: u68 :: u69 :: u70 :: u71 :: u72 :: u73 :: u74 :: u75 :: u76 :: u77 :: u78 :: u79 :: u80 :: u81 :: u82 :: u83 :: u84 :: u85 :: u86 :: u87 :: u88 :: u89 :: u90 :: u91 :: u92 :: u93 :: u94 :: u95 :: u96 :: u97 :: u98 :: u99 :: u100 :: u101 :: u102 :: u103 :: u104 :: u105 :: u106 :: u107 :: u108 :: u109 :: u110 :: u111 :: u112 :: u113 :: u114 :: u115 :: u116 :: u117 :: u118 :: u119 :: u120 :: u121 :: u122 :: u123 :: u124 :: u125 :: u126 :: u127 :: u128 :: u129 :: u130 :: u131 :: u132 :: u133 :: u134 :: u135 :: u136 :: u137 :: u138 :: u139 :: u140 :: u141 :: u142 :: u143 :: u144 :: u145 :: u146 :: u147 :: u148 :: u149 :: u150 :: u151 :: u152 :: u153 :: u154 :: u155 :: u156 :: u157 :: u158 :: u159 :: u160 :: u161 :: u162 :: u163 :: u164 :: u165 :: u166 :: u167 :: u168 :: u169 :: u170 :: u171 :: u172 :: u173 :: u174 :: u175 :: u176 :: u177 :: u178 :: u179 :: u180 :: u181 :: u182 :: u183 :: u184 :: (.slice (some ⟨gn, 0, none⟩) W cn) :: (.int .i64 (W : Int)) :: (.int .i64 (((cx + 1) : Nat) : Int)) :: v188 :: v189 :: v190 :: v191 :: v192 :: v193 :: v194 :: v195 :: v196 :: v197 :: v198 :: v199 :: v200 :: v201 :: v202 :: v203 :: v204 :: u205 :: u206 :: u207 :: u208 :: u209 :: u210 :: u211 :: u212 :: u213 :: u214 :: u215 :: u216 :: u217 :: u218 :: u219 :: u220 :: u221 :: []), []⟩ V)
    (hX : ∀ (v33 v34 v188 v189 v190 v191 v192 v193 v194 v195 v196 v197 v198 v199 v200 v201 v202 v203 v204 : Value), (cx = W) → Q0 (.exit 6) ⟨List.toArray (u0 :: u1 :: (.slice A zs.length cz) :: u3 :: u4 :: u5 :: u6 :: u7 :: u8 :: u9 :: u10 :: u11 :: u12 :: (.pointer (some ⟨ga, 0, none⟩)) :: u14 :: u15 :: u16 :: u17 :: u18 :: u19 :: u20 :: u21 :: u22 :: u23 :: u24 :: u25 :: (.int .i64 (fr : Int)) :: u27 :: (.int .i64 (i : Int)) :: (.slice Aw 32 cw) :: u30 :: (.int .i64 (ρ : Int)) :: u32 :: v33 :: v34 :: u35 :: u36 :: u37 :: u38 :: u39 :: u40 :: u41 :: u42 :: u43 :: u44 :: u45 :: u46 :: u47 :: u48 :: u49 :: u50 :: u51 :: u52 :: u53 :: u54 :: u55 :: u56 :: u57 :: u58 :: u59 :: u60 :: u61 :: u62 :: u63 :: u64 :: u65 :: u66 :: u67 :: u68 :: u69 :: u70 :: u71 :: u72 :: u73 :: u74 :: u75 :: u76 :: u77 :: u78 :: u79 :: u80 :: u81 :: u82 :: u83 :: u84 :: u85 :: u86 :: u87 :: u88 :: u89 :: u90 :: u91 :: u92 :: u93 :: u94 :: u95 :: u96 :: u97 :: u98 :: u99 :: u100 :: u101 :: u102 :: u103 :: u104 :: u105 :: u106 :: u107 :: u108 :: u109 :: u110 :: u111 :: u112 :: u113 :: u114 :: u115 :: u116 :: u117 :: u118 :: u119 :: u120 :: u121 :: u122 :: u123 :: u124 :: u125 :: u126 :: u127 :: u128 :: u129 :: u130 :: u131 :: u132 :: u133 :: u134 :: u135 :: u136 :: u137 :: u138 :: u139 :: u140 :: u141 :: u142 :: u143 :: u144 :: u145 :: u146 :: u147 :: u148 :: u149 :: u150 :: u151 :: u152 :: u153 :: u154 :: u155 :: u156 :: u157 :: u158 :: u159 :: u160 :: u161 :: u162 :: u163 :: u164 :: u165 :: u166 :: u167 :: u168 :: u169 :: u170 :: u171 :: u172 :: u173 :: u174 :: u175 :: u176 :: u177 :: u178 :: u179 :: u180 :: u181 :: u182 :: u183 :: u184 :: (.slice (some ⟨gn, 0, none⟩) W cn) :: (.int .i64 (W : Int)) :: (.int .i64 ((cx : Nat) : Int)) :: v188 :: v189 :: v190 :: v191 :: v192 :: v193 :: v194 :: v195 :: v196 :: v197 :: v198 :: v199 :: v200 :: v201 :: v202 :: v203 :: v204 :: u205 :: u206 :: u207 :: u208 :: u209 :: u210 :: u211 :: u212 :: u213 :: u214 :: u215 :: u216 :: u217 :: u218 :: u219 :: u220 :: u221 :: []), []⟩ w) :
    Code.wp Tryz.prog (sub [1, 1, 1, 1, 1, 1, 1, 1, 1, 1, 1, 1, 1, 1, 0, 1, 0, 0, 1, 0, 0, 1, 1, 1, 0, 1, 0, 0, 1, 1, 0, 0, 1, 1, 0, 1, 1, 0, 1, 0, 0] codeWC) (Exit.then K Q0) ⟨List.toArray (u0 :: u1 :: (.slice A zs.length cz) :: u3 :: u4 :: u5 :: u6 :: u7 :: u8 :: u9 :: u10 :: u11 :: u12 :: (.pointer (some ⟨ga, 0, none⟩)) :: u14 :: u15 :: u16 :: u17 :: u18 :: u19 :: u20 :: u21 :: u22 :: u23 :: u24 :: u25 :: (.int .i64 (fr : Int)) :: u27 :: (.int .i64 (i : Int)) :: (.slice Aw 32 cw) :: u30 :: (.int .i64 (ρ : Int)) :: u32 :: u33 :: u34 :: u35 :: u36 :: u37 :: u38 :: u39 :: u40 :: u41 :: u42 :: u43 :: u44 :: u45 :: u46 :: u47 :: u48 :: u49 :: u50 :: u51 :: u52 :: u53 :: u54 :: u55 :: u56 :: u57 :: u58 :: u59 :: u60 :: u61 :: u62 :: u63 :: u64 :: u65 :: u66 :: u67 :: u68 :: u69 :: u70 :: u71 :: u72 :: u73 :: u74 :: u75 :: u76 :: u77 :: u78 :: u79 :: u80 :: u81 :: u82 :: u83 :: u84 :: u85 :: u86 :: u87 :: u88 :: u89 :: u90 :: u91 :: u92 :: u93 :: u94 :: u95 :: u96 :: u97 :: u98 :: u99 :: u100 :: u101 :: u102 :: u103 :: u104 :: u105 :: u106 :: u107 :: u108 :: u109 :: u110 :: u111 :: u112 :: u113 :: u114 :: u115 :: u116 :: u117 :: u118 :: u119 :: u120 :: u121 :: u122 :: u123 :: u124 :: u125 :: u126 :: u127 :: u128 :: u129 :: u130 :: u131 :: u132 :: u133 :: u134 :: u135 :: u136 :: u137 :: u138 :: u139 :: u140 :: u141 :: u142 :: u143 :: u144 :: u145 :: u146 :: u147 :: u148 :: u149 :: u150 :: u151 :: u152 :: u153 :: u154 :: u155 :: u156 :: u157 :: u158 :: u159 :: u160 :: u161 :: u162 :: u163 :: u164 :: u165 :: u166 :: u167 :: u168 :: u169 :: u170 :: u171 :: u172 :: u173 :: u174 :: u175 :: u176 :: u177 :: u178 :: u179 :: u180 :: u181 :: u182 :: u183 :: u184 :: (.slice (some ⟨gn, 0, none⟩) W cn) :: (.int .i64 (W : Int)) :: (.int .i64 ((cx : Nat) : Int)) :: u188 :: u189 :: u190 :: u191 :: u192 :: u193 :: u194 :: u195 :: u196 :: u197 :: u198 :: u199 :: u200 :: u201 :: u202 :: u203 :: u204 :: u205 :: u206 :: u207 :: u208 :: u209 :: u210 :: u211 :: u212 :: u213 :: u214 :: u215 :: u216 :: u217 :: u218 :: u219 :: u220 :: u221 :: []), []⟩ w := by
  have HK := Lib.hid hK
  have HX := Lib.hid hX
  clear hK hX
  conv => arg 2; whnf
  obtain ⟨hcW, hk⟩ := hI
  have hw7 := gr.w7
  by_cases hlt : cx < W
  · have i0 : (0 : Int) ≤ (cx : Int) := by omega
    have i1 : (cx : Int) < (W : Int) := by omega
    have hc := (cell_of_row w gn cx _ _ _ (hk.kx.kp _ hN).1).trans (hcur cx hlt)
    obtain ⟨g1, g2, g3⟩ := hk.gat (g := ga) (l := l) (d := (D : Int)) (c := c) (t := 25) (f := (0, 0)) hG
    have hwf : IntKind.i64.wrap ((fr : Int) + (i : Int)) = (fr : Int) + (i : Int) := IntWalk.i64_in _ (by omega)
    by_cases hcq : cx = q
    · subst hcq
      rw [hnum] at hc
      have CD := Lib.hid (ks_data hk gr ρ (by omega) zs.length cz rfl hcz hz)
      have hdl : ((datL zs ρ W).getD cx []).length = 32 := dat32 hlt
      have HL := Lib.hid (datL_len zs ρ W)
      have Hat := Lib.hid (wnB_at zs ρ W cx)
      clear HX hk hcur hz hnum gr hG hN
      go_wp2_with fail
      (with_reducible refine CD.out.mono ?_); rintro e w1 ⟨A', c', rfl, k1⟩
      obtain ⟨bd, od, A2, c2, e2, z2, r2⟩ := (k1.rx (A', datL zs ρ W) (List.mem_cons_self ..)).at (k := cx) (by rw [HL.out]; exact hlt)
      dsimp only at e2 z2 r2
      subst e2
      rw [hdl] at z2
      have K2 := Lib.hid (show KS W0 w1 b H M KL RL [(A2, (datL zs ρ W).getD cx [])] from ⟨k1.kx, fun p hp => k1.rx p (List.mem_cons_of_mem _ hp), fun p hp => by
        rw [List.mem_singleton.1 hp]; exact r2⟩)
      clear k1 r2 CD g1 g2 g3
      go_wp2_with fail
      exact HK.out _ _ _ _ _ _ _ _ _ _ _ _ _ _ _ _ _ _ _ A2 c2 _ ⟨by omega, by rw [Hat.out]; exact K2.out⟩ (by omega)
    · have hne := num_ne gr hq hlt hcq
      rw [hnum] at hne
      obtain ⟨x, hx⟩ : ∃ x, plN l (D : Int) c (ρ : Int) (cx : Int) = x := ⟨_, rfl⟩
      rw [hx] at hc hne
      have hb : (x == (fr : Int) + (i : Int)) = false := by rw [beq_eq_false_iff_ne]; exact hne
      have Hof := Lib.hid (wnB_off (zs := zs) (ρ := ρ) (W := W) hcq)
      have HKS := Lib.hid hk
      clear HX hk hcur hz hnum gr hG hN g1 g2 g3 hne hx
      go_wp2_with fail
      exact HK.out _ _ _ _ _ _ _ _ _ _ _ _ _ _ _ _ _ _ _ Aw cw _ ⟨by omega, by rw [Hof.out]; exact HKS.out⟩ (by omega)
  · have i1 : ¬ (cx : Int) < (W : Int) := by omega
    have Hin := Lib.hid (show cx = W by omega)
    clear HK hk
    go_wp2_with fail
    exact HX.out _ _ _ _ _ _ _ _ _ _ _ _ _ _ _ _ _ _ _ Hin.out
set_option maxRecDepth 100000 in
set_option maxHeartbeats 3200000 in
theorem wcN {W0 : World} {n0 l c : Int} {D F W ρ b ga gn cn q i fr cz : Nat} {A : Option Addr} {zs : List Int} {curn : Array Value} {KL : List (Nat × Obj)} {RL : List (Option Addr × List (List UInt8))} {H : BH} {M : Bch} {Aw0 : Option Addr} {cw0 : Nat} {w : World} (u0 u1 u3 u4 u5 u6 u7 u8 u9 u10 u11 u12 u14 u15 u16 u17 u18 u19 u20 u21 u22 u23 u24 u25 u27 u30 u32 u33 u34 u35 u36 u37 u38 u39 u40 u41 u42 u43 u44 u45 u46 u47 u48 u49 u50 u51 u52 u53 u54 u55 u56 u57 u58 u59 u60 u61 u62 u63 u64 u65 u66 u67 u68 u69 u70 u71 u72 u73 u74 u75 u76 u77 u78 u79 u80 u81 u82 u83 u84 u85 u86 u87 u88 u89 u90 u91 u92 u93 u94 u95 u96 u97 u98 u99 u100 u101 u102 u103 u104 u105 u106 u107 u108 u109 u110 u111 u112 u113 u114 u115 u116 u117 u118 u119 u120 u121 u122 u123 u124 u125 u126 u127 u128 u129 u130 u131 u132 u133 u134 u135 u136 u137 u138 u139 u140 u141 u142 u143 u144 u145 u146 u147 u148 u149 u150 u151 u152 u153 u154 u155 u156 u157 u158 u159 u160 u161 u162 u163 u164 u165 u166 u167 u168 u169 u170 u171 u172 u173 u174 u175 u176 u177 u178 u179 u180 u181 u182 u183 u184 u188 u189 u190 u191 u192 u193 u194 u195 u196 u197 u198 u199 u200 u201 u202 u203 u204 u205 u206 u207 u208 u209 u210 u211 u212 u213 u214 u215 u216 u217 u218 u219 u220 u221 : Value) (Q : Exit → Act → World → Prop) (gr : Gr n0 l c (ρ : Int) D F W) (hρ : ρ < 16) (hcz : zs.length ≤ cz) (hz : RdZ W0 W0.heap.size A zs) (hG : (ga, Obj.cells #[.int .i64 l, .int .i64 (D : Int), .int .i64 c] 25 (0, 0)) ∈ KL) (hN : (gn, Obj.cells curn 3 (0, 0)) ∈ KL) (hcur : ∀ k, k < W → curn[k]? = some (.int .i64 (plN l (D : Int) c (ρ : Int) (k : Int)))) (hq : q < W) (hnum : plN l (D : Int) c (ρ : Int) (q : Int) = (fr : Int) + (i : Int)) (hbd : fr + i ≤ 1000) (hI : (0 ≤ W ∧ KS W0 w b H M KL RL [(Aw0, wnB zs ρ W q 0)]))
    (hX : ∀ (v33 v34 v188 v189 v190 v191 v192 v193 v194 v195 v196 v197 v198 v199 v200 v201 v202 v203 v204 : Value) (cx : Nat) (Aw : Option Addr) (cw : Nat) (V : World), (cx ≤ W ∧ KS W0 V b H M KL RL [(Aw, wnB zs ρ W q cx)]) → (cx = W) → Q (.exit 6) ⟨List.toArray (u0 :: u1 :: (.slice A zs.length cz) :: u3 :: u4 :: u5 :: u6 :: u7 :: u8 :: u9 :: u10 :: u11 :: u12 :: (.pointer (some ⟨ga, 0, none⟩)) :: u14 :: u15 :: u16 :: u17 :: u18 :: u19 :: u20 :: u21 :: u22 :: u23 :: u24 :: u25 :: (.int .i64 (fr : Int)) :: u27 :: (.int .i64 (i : Int)) :: (.slice Aw 32 cw) :: u30 :: (.int .i64 (ρ : Int)) :: u32 :: v33 :: v34 :: u35 :: u36 :: u37 :: u38 :: u39 :: u40 :: u41 :: u42 :: u43 :: u44 :: u45 :: u46 :: u47 :: u48 :: u49 :: u50 :: u51 :: u52 :: u53 :: u54 :: u55 :: u56 :: u57 :: u58 :: u59 :: u60 :: u61 :: u62 :: u63 :: u64 :: u65 :: u66 :: u67 :: u68 :: u69 :: u70 :: u71 :: u72 :: u73 :: u74 :: u75 :: u76 :: u77 :: u78 :: u79 :: u80 :: u81 :: u82 :: u83 :: u84 :: u85 :: u86 :: u87 :: u88 :: u89 :: u90 :: u91 :: u92 :: u93 :: u94 :: u95 :: u96 :: u97 :: u98 :: u99 :: u100 :: u101 :: u102 :: u103 :: u104 :: u105 :: u106 :: u107 :: u108 :: u109 :: u110 :: u111 :: u112 :: u113 :: u114 :: u115 :: u116 :: u117 :: u118 :: u119 :: u120 :: u121 :: u122 :: u123 :: u124 :: u125 :: u126 :: u127 :: u128 :: u129 :: u130 :: u131 :: u132 :: u133 :: u134 :: u135 :: u136 :: u137 :: u138 :: u139 :: u140 :: u141 :: u142 :: u143 :: u144 :: u145 :: u146 :: u147 :: u148 :: u149 :: u150 :: u151 :: u152 :: u153 :: u154 :: u155 :: u156 :: u157 :: u158 :: u159 :: u160 :: u161 :: u162 :: u163 :: u164 :: u165 :: u166 :: u167 :: u168 :: u169 :: u170 :: u171 :: u172 :: u173 :: u174 :: u175 :: u176 :: u177 :: u178 :: u179 :: u180 :: u181 :: u182 :: u183 :: u184 :: (.slice (some ⟨gn, 0, none⟩) W cn) :: (.int .i64 (W : Int)) :: (.int .i64 ((cx : Nat) : Int)) :: v188 :: v189 :: v190 :: v191 :: v192 :: v193 :: v194 :: v195 :: v196 :: v197 :: v198 :: v199 :: v200 :: v201 :: v202 :: v203 :: v204 :: u205 :: u206 :: u207 :: u208 :: u209 :: u210 :: u211 :: u212 :: u213 :: u214 :: u215 :: u216 :: u217 :: u218 :: u219 :: u220 :: u221 :: []), []⟩ V) :
    Code.wp Tryz.prog (.loop (sub [1, 1, 1, 1, 1, 1, 1, 1, 1, 1, 1, 1, 1, 1, 0, 1, 0, 0, 1, 0, 0, 1, 1, 1, 0, 1, 0, 0, 1, 1, 0, 0, 1, 1, 0, 1, 1, 0, 1, 0, 0] codeWC)) Q ⟨List.toArray (u0 :: u1 :: (.slice A zs.length cz) :: u3 :: u4 :: u5 :: u6 :: u7 :: u8 :: u9 :: u10 :: u11 :: u12 :: (.pointer (some ⟨ga, 0, none⟩)) :: u14 :: u15 :: u16 :: u17 :: u18 :: u19 :: u20 :: u21 :: u22 :: u23 :: u24 :: u25 :: (.int .i64 (fr : Int)) :: u27 :: (.int .i64 (i : Int)) :: (.slice Aw0 32 cw0) :: u30 :: (.int .i64 (ρ : Int)) :: u32 :: u33 :: u34 :: u35 :: u36 :: u37 :: u38 :: u39 :: u40 :: u41 :: u42 :: u43 :: u44 :: u45 :: u46 :: u47 :: u48 :: u49 :: u50 :: u51 :: u52 :: u53 :: u54 :: u55 :: u56 :: u57 :: u58 :: u59 :: u60 :: u61 :: u62 :: u63 :: u64 :: u65 :: u66 :: u67 :: u68 :: u69 :: u70 :: u71 :: u72 :: u73 :: u74 :: u75 :: u76 :: u77 :: u78 :: u79 :: u80 :: u81 :: u82 :: u83 :: u84 :: u85 :: u86 :: u87 :: u88 :: u89 :: u90 :: u91 :: u92 :: u93 :: u94 :: u95 :: u96 :: u97 :: u98 :: u99 :: u100 :: u101 :: u102 :: u103 :: u104 :: u105 :: u106 :: u107 :: u108 :: u109 :: u110 :: u111 :: u112 :: u113 :: u114 :: u115 :: u116 :: u117 :: u118 :: u119 :: u120 :: u121 :: u122 :: u123 :: u124 :: u125 :: u126 :: u127 :: u128 :: u129 :: u130 :: u131 :: u132 :: u133 :: u134 :: u135 :: u136 :: u137 :: u138 :: u139 :: u140 :: u141 :: u142 :: u143 :: u144 :: u145 :: u146 :: u147 :: u148 :: u149 :: u150 :: u151 :: u152 :: u153 :: u154 :: u155 :: u156 :: u157 :: u158 :: u159 :: u160 :: u161 :: u162 :: u163 :: u164 :: u165 :: u166 :: u167 :: u168 :: u169 :: u170 :: u171 :: u172 :: u173 :: u174 :: u175 :: u176 :: u177 :: u178 :: u179 :: u180 :: u181 :: u182 :: u183 :: u184 :: (.slice (some ⟨gn, 0, none⟩) W cn) :: (.int .i64 (W : Int)) :: (.int .i64 ((0 : Nat) : Int)) :: u188 :: u189 :: u190 :: u191 :: u192 :: u193 :: u194 :: u195 :: u196 :: u197 :: u198 :: u199 :: u200 :: u201 :: u202 :: u203 :: u204 :: u205 :: u206 :: u207 :: u208 :: u209 :: u210 :: u211 :: u212 :: u213 :: u214 :: u215 :: u216 :: u217 :: u218 :: u219 :: u220 :: u221 :: []), []⟩ w := by
  refine wp_loop_ghost (fun gk a V => ∀ C : Prop, (∀ (u33 u34 u188 u189 u190 u191 u192 u193 u194 u195 u196 u197 u198 u199 u200 u201 u202 u203 u204 : Value) (cx : Nat) (Aw : Option Addr) (cw : Nat), gk = W - cx → (cx ≤ W ∧ KS W0 V b H M KL RL [(Aw, wnB zs ρ W q cx)]) → a = ⟨List.toArray (u0 :: u1 :: (.slice A zs.length cz) :: u3 :: u4 :: u5 :: u6 :: u7 :: u8 :: u9 :: u10 :: u11 :: u12 :: (.pointer (some ⟨ga, 0, none⟩)) :: u14 :: u15 :: u16 :: u17 :: u18 :: u19 :: u20 :: u21 :: u22 :: u23 :: u24 :: u25 :: (.int .i64 (fr : Int)) :: u27 :: (.int .i64 (i : Int)) :: (.slice Aw 32 cw) :: u30 :: (.int .i64 (ρ : Int)) :: u32 :: u33 :: u34 :: u35 :: u36 :: u37 :: u38 :: u39 :: u40 :: u41 :: u42 :: u43 :: u44 :: u45 :: u46 :: u47 :: u48 :: u49 :: u50 :: u51 :: u52 :: u53 :: u54 :: u55 :: u56 :: u57 :: u58 :: u59 :: u60 :: u61 :: u62 :: u63 :: u64 :: u65 :: u66 :: u67 :: u68 :: u69 :: u70 :: u71 :: u72 :: u73 :: u74 :: u75 :: u76 :: u77 :: u78 :: u79 :: u80 :: u81 :: u82 :: u83 :: u84 :: u85 :: u86 :: u87 :: u88 :: u89 :: u90 :: u91 :: u92 :: u93 :: u94 :: u95 :: u96 :: u97 :: u98 :: u99 :: u100 :: u101 :: u102 :: u103 :: u104 :: u105 :: u106 :: u107 :: u108 :: u109 :: u110 :: u111 :: u112 :: u113 :: u114 :: u115 :: u116 :: u117 :: u118 :: u119 :: u120 :: u121 :: u122 :: u123 :: u124 :: u125 :: u126 :: u127 :: u128 :: u129 :: u130 :: u131 :: u132 :: u133 :: u134 :: u135 :: u136 :: u137 :: u138 :: u139 :: u140 :: u141 :: u142 :: u143 :: u144 :: u145 :: u146 :: u147 :: u148 :: u149 :: u150 :: u151 :: u152 :: u153 :: u154 :: u155 :: u156 :: u157 :: u158 :: u159 :: u160 :: u161 :: u162 :: u163 :: u164 :: u165 :: u166 :: u167 :: u168 :: u169 :: u170 :: u171 :: u172 :: u173 :: u174 :: u175 :: u176 :: u177 :: u178 :: u179 :: u180 :: u181 :: u182 :: u183 :: u184 :: (.slice (some ⟨gn, 0, none⟩) W cn) :: (.int .i64 (W : Int)) :: (.int .i64 ((cx : Nat) : Int)) :: u188 :: u189 :: u190 :: u191 :: u192 :: u193 :: u194 :: u195 :: u196 :: u197 :: u198 :: u199 :: u200 :: u201 :: u202 :: u203 :: u204 :: u205 :: u206 :: u207 :: u208 :: u209 :: u210 :: u211 :: u212 :: u213 :: u214 :: u215 :: u216 :: u217 :: u218 :: u219 :: u220 :: u221 :: []), []⟩ → C) → C) (W - 0) ?_ ?_
  · intro C hC
    exact hC _ _ _ _ _ _ _ _ _ _ _ _ _ _ _ _ _ _ _ (0) (Aw0) (cw0) rfl hI rfl
  · intro gk a V hI'
    refine hI' _ ?_
    intro u33 u34 u188 u189 u190 u191 u192 u193 u194 u195 u196 u197 u198 u199 u200 u201 u202 u203 u204 cx Aw cw hk hinv ha
    subst ha
    subst hk
    refine wcNb _ _ _ _ _ _ _ _ _ _ _ _ _ _ _ _ _ _ _ _ _ _ _ _ _ _ _ _ _ _ _ _ _ _ _ _ _ _ _ _ _ _ _ _ _ _ _ _ _ _ _ _ _ _ _ _ _ _ _ _ _ _ _ _ _ _ _ _ _ _ _ _ _ _ _ _ _ _ _ _ _ _ _ _ _ _ _ _ _ _ _ _ _ _ _ _ _ _ _ _ _ _ _ _ _ _ _ _ _ _ _ _ _ _ _ _ _ _ _ _ _ _ _ _ _ _ _ _ _ _ _ _ _ _ _ _ _ _ _ _ _ _ _ _ _ _ _ _ _ _ _ _ _ _ _ _ _ _ _ _ _ _ _ _ _ _ _ _ _ _ _ _ _ _ _ _ _ _ _ _ _ _ _ _ _ _ _ _ _ _ _ _ _ _ _ _ _ _ _ _ _ _ _ _ _ _ _ _ _ _ _ _ _ _ _ gr hρ hcz hz hG hN hcur hq hnum hbd hinv (fun v33 v34 v188 v189 v190 v191 v192 v193 v194 v195 v196 v197 v198 v199 v200 v201 v202 v203 v204 Aw2 cw2 V2 h2 hm => ?_) (fun v33 v34 v188 v189 v190 v191 v192 v193 v194 v195 v196 v197 v198 v199 v200 v201 v202 v203 v204 hx => hX v33 v34 v188 v189 v190 v191 v192 v193 v194 v195 v196 v197 v198 v199 v200 v201 v202 v203 v204 cx Aw cw V hinv hx)
    refine ⟨_, hm, fun C hC => ?_⟩
    exact hC v33 v34 v188 v189 v190 v191 v192 v193 v194 v195 v196 v197 v198 v199 v200 v201 v202 v203 v204 ((cx + 1)) (Aw2) (cw2) rfl h2 rfl
set_option maxRecDepth 100000 in
set_option maxHeartbeats 3200000 in
theorem wcIb {W0 : World} {l c : Int} {D b ga fr mm cz cd : Nat} {A Ad : Option Addr} {zs : List Int} {KL : List (Nat × Obj)} {RL : List (Option Addr × List (List UInt8))} {H : BH} {M : Bch} {ix : Nat} {w : World} (u0 u1 u3 u4 u5 u6 u7 u8 u9 u10 u11 u12 u14 u15 u16 u17 u18 u19 u20 u21 u22 u23 u25 u27 u28 u29 u30 u31 u32 u33 u34 u35 u36 u37 u38 u39 u40 u41 u42 u43 u44 u45 u46 u47 u48 u49 u50 u51 u52 u53 u54 u55 u56 u57 u58 u59 u60 u61 u62 u63 u64 u65 u66 u67 u68 u69 u70 u71 u72 u73 u74 u75 u76 u77 u78 u79 u80 u81 u82 u83 u84 u85 u86 u87 u88 u89 u90 u91 u92 u93 u94 u95 u96 u97 u98 u99 u100 u101 u102 u103 u104 u105 u106 u107 u108 u109 u110 u111 u112 u113 u114 u115 u116 u117 u118 u119 u120 u121 u122 u123 u124 u125 u126 u127 u128 u129 u130 u131 u132 u133 u134 u135 u136 u137 u138 u139 u140 u141 u142 u143 u144 u145 u146 u147 u148 u149 u150 u151 u152 u153 u154 u155 u156 u157 u158 u159 u160 u161 u162 u163 u164 u165 u166 u167 u170 u171 u172 u173 u174 u175 u176 u177 u178 u179 u180 u181 u182 u183 u184 u185 u186 u187 u188 u189 u190 u191 u192 u193 u194 u195 u196 u197 u198 u199 u200 u201 u202 u203 u204 u205 u206 u207 u208 u209 u210 u211 u212 u213 u214 u215 u216 u217 u218 u219 u220 u221 : Value) (K : Act → World → Prop) (Q0 : Exit → Act → World → Prop) (hg : gOk l (D : Int) c = true) (hcz : zs.length ≤ cz) (hz : RdZ W0 W0.heap.size A zs) (hG : (ga, Obj.cells #[.int .i64 l, .int .i64 (D : Int), .int .i64 c] 25 (0, 0)) ∈ KL) (hfr : fr ≤ 500) (hmm : mm ≤ 28) (hR : (Ad, wlist (gCap l (D : Int) c) (valOf l (D : Int) c (fun t => datL zs t (roW l (D : Int)))) (fr : Int) mm) ∈ RL) (hI : (ix ≤ mm ∧ KS W0 w b H M KL RL []))
    (hK : ∀ (v12 v28 v29 v30 v31 v32 v33 v34 v170 v171 v172 v173 v174 v175 v176 v177 v178 v179 v180 v181 v182 v183 v184 v185 v186 v187 v188 v189 v190 v191 v192 v193 v194 v195 v196 v197 v198 v199 v200 v201 v202 v203 v204 v205 v206 v207 v208 v209 v210 v211 v212 : Value)  (V : World), ((ix + 1) ≤ mm ∧ KS W0 V b H M KL RL []) → mm - (ix + 1) < mm - ix → K ⟨List.toArray (u0 :: u1 :: (.slice A zs.length cz) :: u3 :: u4 :: u5 :: u6 :: u7 :: u8 :: u9 :: u10 :: u11 :: v12 :: (.pointer (some ⟨ga, 0, none⟩)) :: u14 :: u15 :: u16 :: u17 :: u18 :: u19 :: u20 :: u21 :: u22 :: u23 :: (.slice Ad mm cd) :: u25 :: (.int .i64 (fr : Int)) :: u27 :: v28 :: v29 :: v30 :: v31 :: v32 :: v33 :: v34 :: u35 :: u36 :: u37 :: u38 :: u39 :: u40 :: u41 :: u42 :: u43 :: u44 :: u45 :: u46 :: u47 :: u48 :: u49 :: u50 :: u51 :: u52 :: u53 :: u54 :: u55 :: u56 :: u57 :: u58 :: u59 :: u60 :: u61 :: u62 :: u63 :: u64 :: u65 :: u66 :: u67 :: u68 :: u69 :: u70 :: u71 :: u72 :: u73 :: u74 :: u75 :: u76 :: u77 :: u78 :: u79 :: u80 :: u81 :: u82 :: u83 :: u84 :: u85 :: u86 :: u87 :: u88 :: u89 :: u90 :: u91 :: u92 :: u93 :: u94 :: u95 :: u96 :: u97 :: u98 :: u99 :: u100 :: u101 :: u102 :: u103 :: u104 :: u105 :: u106 :: u107 :: u108 :: u109 :: u110 :: u111 :: u112 :: u113 :: u114 :: u115 :: u116 :: u117 :: u118 :: u119 :: u120 :: u121 :: u122 :: u123 :: u124 :: u125 :: u126 :: u127 :: u128 :: u129 :: u130 :: u131 :: u132 :: u133 :: u134 :: u135 :: u136 :: u137 :: u138 :: u139 :: u140 :: u141 :: u142 :: u143 :: u144 :: u145 :: u146 :: u147 :: u148 :: u149 :: u150 :: u151 :: u152 :: u153 :: u154 :: u155 :: u156 :: u157 :: u158 :: u159 :: u160 :: u161 :: u162 :: u163 :: u164 :: u165 :: u166 :: u167 :: (.int .i64 (mm : Int)) :: (.int .i64 (((ix + 1) : Nat) : Int)) :: v170 :: v171 :: v172 :: v173 :: v174 :: v175 :: v176 :: v177 :: v178 :: v179 :: v180 :: v181 :: v182 :: v183 :: v184 :: v185 :: v186 :: v187 :: v188 :: v189 :: v190 :: v191 :: v192 :: v193 :: v194 :: v195 :: v196 :: v197 :: v198 :: v199 :: v200 :: v201 :: v202 :: v203 :: v204 :: v205 :: v206 :: v207 :: v208 :: v209 :: v210 :: v211 :: v212 :: u213 :: u214 :: u215 :: u216 :: u217 :: u218 :: u219 :: u220 :: u221 :: []), []⟩ V)
    (hX : ∀ (v12 v28 v29 v30 v31 v32 v33 v34 v170 v171 v172 v173 v174 v175 v176 v177 v178 v179 v180 v181 v182 v183 v184 v185 v186 v187 v188 v189 v190 v191 v192 v193 v194 v195 v196 v197 v198 v199 v200 v201 v202 v203 v204 v205 v206 v207 v208 v209 v210 v211 v212 : Value), (ix = mm) → Q0 (.exit 4) ⟨List.toArray (u0 :: u1 :: (.slice A zs.length cz) :: u3 :: u4 :: u5 :: u6 :: u7 :: u8 :: u9 :: u10 :: u11 :: v12 :: (.pointer (some ⟨ga, 0, none⟩)) :: u14 :: u15 :: u16 :: u17 :: u18 :: u19 :: u20 :: u21 :: u22 :: u23 :: (.slice Ad mm cd) :: u25 :: (.int .i64 (fr : Int)) :: u27 :: v28 :: v29 :: v30 :: v31 :: v32 :: v33 :: v34 :: u35 :: u36 :: u37 :: u38 :: u39 :: u40 :: u41 :: u42 :: u43 :: u44 :: u45 :: u46 :: u47 :: u48 :: u49 :: u50 :: u51 :: u52 :: u53 :: u54 :: u55 :: u56 :: u57 :: u58 :: u59 :: u60 :: u61 :: u62 :: u63 :: u64 :: u65 :: u66 :: u67 :: u68 :: u69 :: u70 :: u71 :: u72 :: u73 :: u74 :: u75 :: u76 :: u77 :: u78 :: u79 :: u80 :: u81 :: u82 :: u83 :: u84 :: u85 :: u86 :: u87 :: u88 :: u89 :: u90 :: u91 :: u92 :: u93 :: u94 :: u95 :: u96 :: u97 :: u98 :: u99 :: u100 :: u101 :: u102 :: u103 :: u104 :: u105 :: u106 :: u107 :: u108 :: u109 :: u110 :: u111 :: u112 :: u113 :: u114 :: u115 :: u116 :: u117 :: u118 :: u119 :: u120 :: u121 :: u122 :: u123 :: u124 :: u125 :: u126 :: u127 :: u128 :: u129 :: u130 :: u131 :: u132 :: u133 :: u134 :: u135 :: u136 :: u137 :: u138 :: u139 :: u140 :: u141 :: u142 :: u143 :: u144 :: u145 :: u146 :: u147 :: u148 :: u149 :: u150 :: u151 :: u152 :: u153 :: u154 :: u155 :: u156 :: u157 :: u158 :: u159 :: u160 :: u161 :: u162 :: u163 :: u164 :: u165 :: u166 :: u167 :: (.int .i64 (mm : Int)) :: (.int .i64 ((ix : Nat) : Int)) :: v170 :: v171 :: v172 :: v173 :: v174 :: v175 :: v176 :: v177 :: v178 :: v179 :: v180 :: v181 :: v182 :: v183 :: v184 :: v185 :: v186 :: v187 :: v188 :: v189 :: v190 :: v191 :: v192 :: v193 :: v194 :: v195 :: v196 :: v197 :: v198 :: v199 :: v200 :: v201 :: v202 :: v203 :: v204 :: v205 :: v206 :: v207 :: v208 :: v209 :: v210 :: v211 :: v212 :: u213 :: u214 :: u215 :: u216 :: u217 :: u218 :: u219 :: u220 :: u221 :: []), []⟩ w) :
    Code.wp Tryz.prog (sub [1, 1, 1, 1, 1, 1, 1, 1, 1, 1, 1, 1, 1, 1, 0, 1, 0, 0, 1, 0, 0, 1, 1, 1, 0, 1, 0, 0] codeWC) (Exit.then K Q0) ⟨List.toArray (u0 :: u1 :: (.slice A zs.length cz) :: u3 :: u4 :: u5 :: u6 :: u7 :: u8 :: u9 :: u10 :: u11 :: u12 :: (.pointer (some ⟨ga, 0, none⟩)) :: u14 :: u15 :: u16 :: u17 :: u18 :: u19 :: u20 :: u21 :: u22 :: u23 :: (.slice Ad mm cd) :: u25 :: (.int .i64 (fr : Int)) :: u27 :: u28 :: u29 :: u30 :: u31 :: u32 :: u33 :: u34 :: u35 :: u36 :: u37 :: u38 :: u39 :: u40 :: u41 :: u42 :: u43 :: u44 :: u45 :: u46 :: u47 :: u48 :: u49 :: u50 :: u51 :: u52 :: u53 :: u54 :: u55 :: u56 :: u57 :: u58 :: u59 :: u60 :: u61 :: u62 :: u63 :: u64 :: u65 :: u66 :: u67 :: u68 :: u69 :: u70 :: u71 :: u72 :: u73 :: u74 :: u75 :: u76 :: u77 :: u78 :: u79 :: u80 :: u81 :: u82 :: u83 :: u84 :: u85 :: u86 :: u87 :: u88 :: u89 :: u90 :: u91 :: u92 :: u93 :: u94 :: u95 :: u96 :: u97 :: u98 :: u99 :: u100 :: u101 :: u102 :: u103 :: u104 :: u105 :: u106 :: u107 :: u108 :: u109 :: u110 :: u111 :: u112 :: u113 :: u114 :: u115 :: u116 :: u117 :: u118 :: u119 :: u120 :: u121 :: u122 :: u123 :: u124 :: u125 :: u126 :: u127 :: u128 :: u129 :: u130 :: u131 :: u132 :: u133 :: u134 :: u135 :: u136 :: u137 :: u138 :: u139 :: u140 :: u141 :: u142 :: u143 :: u144 :: u145 :: u146 :: u147 :: u148 :: u149 :: u150 :: u151 :: u152 :: u153 :: u154 :: u155 :: u156 :: u157 :: u158 :: u159 :: u160 :: u161 :: u162 :: u163 :: u164 :: u165 :: u166 :: u167 :: (.int .i64 (mm : Int)) :: (.int .i64 ((ix : Nat) : Int)) :: u170 :: u171 :: u172 :: u173 :: u174 :: u175 :: u176 :: u177 :: u178 :: u179 :: u180 :: u181 :: u182 :: u183 :: u184 :: u185 :: u186 :: u187 :: u188 :: u189 :: u190 :: u191 :: u192 :: u193 :: u194 :: u195 :: u196 :: u197 :: u198 :: u199 :: u200 :: u201 :: u202 :: u203 :: u204 :: u205 :: u206 :: u207 :: u208 :: u209 :: u210 :: u211 :: u212 :: u213 :: u214 :: u215 :: u216 :: u217 :: u218 :: u219 :: u220 :: u221 :: []), []⟩ w := by
  have HK := Lib.hid hK
  have HX := Lib.hid hX
  clear hK hX
  conv => arg 2; whnf
  obtain ⟨him, hk⟩ := hI
  have hb8 := gOk_bd hg
  by_cases hlt : ix < mm
  · have i0 : (0 : Int) ≤ (ix : Int) := by omega
    have i1 : (ix : Int) < (mm : Int) := by omega
    have hmk : ∀ w, (Instr.makeSlice 48 (.int .i64 32) (.int .i64 32)).run Tryz.prog w = .ok (.slice (some ⟨w.heap.size, 0, none⟩) 32 32) (w.alloc (.cells (zcells 32) 5)) := make_bytes 32 (by omega)
    have hwf : IntKind.i64.wrap ((fr : Int) + (ix : Int)) = (fr : Int) + (ix : Int) := IntWalk.i64_in _ (by omega)
    have CO := fun V => refOf_any l (D : Int) c ((fr : Int) + (ix : Int)) V (by omega) (by omega) (by omega) (by omega)
    have k1 := hk.slice (below1 w (.cells (zcells 32) 5)) (winZero w w.heap.size (Nat.le_refl _))
    have K1 := Lib.hid k1
    obtain ⟨g1, g2, g3⟩ := k1.gat (g := ga) (l := l) (d := (D : Int)) (c := c) (t := 25) (f := (0, 0)) hG
    have hxe : (wlist (gCap l (D : Int) c) (valOf l (D : Int) c (fun t => datL zs t (roW l (D : Int)))) (fr : Int) mm).getD ix [] = upTo (gCap l (D : Int) c) (valOf l (D : Int) c (fun t => datL zs t (roW l (D : Int)))) ((fr : Int) + (ix : Int)) := wlist_get hlt
    have hwl := wlist_len (gCap l (D : Int) c) (valOf l (D : Int) c (fun t => datL zs t (roW l (D : Int)))) (fr : Int) mm
    by_cases hcp : (fr : Int) + (ix : Int) < gCap l (D : Int) c
    · obtain ⟨ρ, q, hρ, hq, e1, e2, e3, e4⟩ := num_at hg (show 0 ≤ (fr : Int) + (ix : Int) by omega) hcp
      simp only [e1, e2] at CO
      have CO := Lib.hid CO
      have gr := gr_mk (l := l) (c := c) (r := (ρ : Int)) (D := D) hg (by omega) (by omega)
      have Grs := Lib.hid gr
      have hx2 : (wlist (gCap l (D : Int) c) (valOf l (D : Int) c (fun t => datL zs t (roW l (D : Int)))) (fr : Int) mm).getD ix [] = (datL zs ρ (roW l (D : Int))).getD q [] := by
        rw [hxe]; unfold upTo; rw [if_pos hcp]; exact e4 _
      have hxl : ((datL zs ρ (roW l (D : Int))).getD q []).length = 32 := dat32 hq
      have Hx2 := Lib.hid hx2
      have He3 := Lib.hid e3
      have HRm := Lib.hid hR
      have HGm := Lib.hid hG
      have Hwl := Lib.hid hwl
      have HZ := Lib.hid hz
      generalize plOfD l (D : Int) c ((fr : Int) + (ix : Int)) = dz at CO
      clear HX hk k1 hxe hx2 e3 e4 e1 e2 hR hG hwl hz gr hg hcp
      go_wp2_with fail
      (with_reducible refine (CO.out _).mono ?_); rintro e w1 ⟨rfl, hb1⟩
      have K2 := Lib.hid (K1.out.below hb1)
      have CN := Lib.hid (ks_numsG K2.out Grs.out)
      clear g1 g2 g3
      obtain ⟨g1, g2, g3⟩ := K2.out.gat (g := ga) (l := l) (d := (D : Int)) (c := c) (t := 25) (f := (0, 0)) HGm.out
      clear hb1 K1 CO
      go_wp2_with fail
      (with_reducible refine CN.out.mono ?_); rintro e w2 ⟨gn, cn, curn, rfl, k3, hcur, _⟩
      have K3 := Lib.hid k3
      have Hcur := Lib.hid hcur
      clear k3 hcur CN K2 g1 g2 g3
      go_upto_block 6 with fail
      refine wp_block ?_
      refine wcN _ _ _ _ _ _ _ _ _ _ _ _ _ _ _ _ _ _ _ _ _ _ _ _ _ _ _ _ _ _ _ _ _ _ _ _ _ _ _ _ _ _ _ _ _ _ _ _ _ _ _ _ _ _ _ _ _ _ _ _ _ _ _ _ _ _ _ _ _ _ _ _ _ _ _ _ _ _ _ _ _ _ _ _ _ _ _ _ _ _ _ _ _ _ _ _ _ _ _ _ _ _ _ _ _ _ _ _ _ _ _ _ _ _ _ _ _ _ _ _ _ _ _ _ _ _ _ _ _ _ _ _ _ _ _ _ _ _ _ _ _ _ _ _ _ _ _ _ _ _ _ _ _ _ _ _ _ _ _ _ _ _ _ _ _ _ _ _ _ _ _ _ _ _ _ _ _ _ _ _ _ _ _ _ _ _ _ _ _ _ _ _ _ _ _ _ _ _ _ _ _ _ _ _ _ _ _ _ _ _ _ _ _ _ Grs.out hρ hcz HZ.out (List.mem_cons_of_mem _ HGm.out) (List.mem_cons_self ..) Hcur.out hq He3.out (by omega) ⟨Nat.zero_le _, by rw [wnB_zero]; exact K3.out⟩ (fun v33 v34 v188 v189 v190 v191 v192 v193 v194 v195 v196 v197 v198 v199 v200 v201 v202 v203 v204 cx Aw cw V4 hI4 hx4 => ?_)
      subst hx4
      have k4 := hI4.2
      rw [wnB_all hq] at k4
      have K4 := Lib.hid (show KS W0 V4 b H M KL RL [(Aw, (datL zs ρ (roW l (D : Int))).getD q [])] from k4.less (fun p hp => List.mem_cons_of_mem _ hp) (fun p hp => hp) (fun p hp => hp))
      clear hI4 k4 K3 Hcur
      obtain ⟨bx, ox, A2, c2, e5, z2, r2⟩ := (K4.out.rx _ HRm.out).at (k := ix) (by show ix < List.length _; rw [Hwl.out]; exact hlt)
      dsimp only at e5 z2 r2
      subst e5
      rw [Hx2.out] at z2 r2
      have CS := sameT_any (c := c2) (c' := cw) hxl.symm hxl.symm r2.rdb (K4.out.sl (A := Aw) (bs := (datL zs ρ (roW l (D : Int))).getD q []) (List.mem_cons_self ..))
      rw [hxl] at z2
      have CS := Lib.hid CS
      clear r2
      go_wp2_with fail
      (with_reducible refine CS.out.mono ?_); rintro e w5 ⟨rfl, m2, rfl⟩
      have K5 := Lib.hid ((K4.out.below (belowN _ _ m2)).less (K' := KL) (R' := RL) (S' := []) (fun p hp => hp) (fun p hp => hp) (fun p hp => by cases hp))
      clear CS K4
      go_wp2_with fail
      exact HK.out _ _ _ _ _ _ _ _ _ _ _ _ _ _ _ _ _ _ _ _ _ _ _ _ _ _ _ _ _ _ _ _ _ _ _ _ _ _ _ _ _ _ _ _ _ _ _ _ _ _ _ _ ⟨by omega, K5.out⟩ (by omega)
    · have e2 := plOfOk_no (l := l) (d := (D : Int)) (c := c) (n := (fr : Int) + (ix : Int)) (fun h => hcp h.2)
      simp only [e2] at CO
      have CO := Lib.hid CO
      have hx2 : (wlist (gCap l (D : Int) c) (valOf l (D : Int) c (fun t => datL zs t (roW l (D : Int)))) (fr : Int) mm).getD ix [] = zeroL 32 := by
        rw [hxe]; unfold upTo; rw [if_neg hcp]
      have Hx2 := Lib.hid hx2
      have HRm := Lib.hid hR
      have Hwl := Lib.hid hwl
      generalize plOfD l (D : Int) c ((fr : Int) + (ix : Int)) = dz at CO
      generalize plOfR l (D : Int) c ((fr : Int) + (ix : Int)) = rz at CO
      clear HX hk k1 hxe hx2 e2 hR hG hwl hz hg hcp
      go_wp2_with fail
      (with_reducible refine (CO.out _).mono ?_); rintro e w1 ⟨rfl, hb1⟩
      have K4 := Lib.hid (K1.out.below hb1)
      obtain ⟨bx, ox, A2, c2, e5, z2, r2⟩ := (K4.out.rx _ HRm.out).at (k := ix) (by show ix < List.length _; rw [Hwl.out]; exact hlt)
      dsimp only at e5 z2 r2
      subst e5
      rw [Hx2.out] at z2 r2
      have CS := Lib.hid (sameT_any (n := 32) (n' := 32) (c := c2) (c' := 32) (bs := zeroL 32) rfl rfl r2.rdb (K4.out.sl (bs := zeroL 32) (List.mem_cons_self ..)))
      have hz32 : (zeroL 32).length = 32 := rfl
      rw [hz32] at z2
      clear r2 hb1 K1 CO g1 g2 g3 hz32
      go_wp2_with fail
      (with_reducible refine CS.out.mono ?_); rintro e w5 ⟨rfl, m2, rfl⟩
      have K5 := Lib.hid ((K4.out.below (belowN _ _ m2)).less (K' := KL) (R' := RL) (S' := []) (fun p hp => hp) (fun p hp => hp) (fun p hp => by cases hp))
      clear CS K4
      go_wp2_with fail
      exact HK.out _ _ _ _ _ _ _ _ _ _ _ _ _ _ _ _ _ _ _ _ _ _ _ _ _ _ _ _ _ _ _ _ _ _ _ _ _ _ _ _ _ _ _ _ _ _ _ _ _ _ _ _ ⟨by omega, K5.out⟩ (by omega)
  · have i1 : ¬ (ix : Int) < (mm : Int) := by omega
    have Hin := Lib.hid (show ix = mm by omega)
    clear HK hk
    go_wp2_with fail
    exact HX.out _ _ _ _ _ _ _ _ _ _ _ _ _ _ _ _ _ _ _ _ _ _ _ _ _ _ _ _ _ _ _ _ _ _ _ _ _ _ _ _ _ _ _ _ _ _ _ _ _ _ _ Hin.out
set_option maxRecDepth 100000 in
set_option maxHeartbeats 3200000 in
theorem wcI {W0 : World} {l c : Int} {D b ga fr mm cz cd : Nat} {A Ad : Option Addr} {zs : List Int} {KL : List (Nat × Obj)} {RL : List (Option Addr × List (List UInt8))} {H : BH} {M : Bch}  {w : World} (u0 u1 u3 u4 u5 u6 u7 u8 u9 u10 u11 u12 u14 u15 u16 u17 u18 u19 u20 u21 u22 u23 u25 u27 u28 u29 u30 u31 u32 u33 u34 u35 u36 u37 u38 u39 u40 u41 u42 u43 u44 u45 u46 u47 u48 u49 u50 u51 u52 u53 u54 u55 u56 u57 u58 u59 u60 u61 u62 u63 u64 u65 u66 u67 u68 u69 u70 u71 u72 u73 u74 u75 u76 u77 u78 u79 u80 u81 u82 u83 u84 u85 u86 u87 u88 u89 u90 u91 u92 u93 u94 u95 u96 u97 u98 u99 u100 u101 u102 u103 u104 u105 u106 u107 u108 u109 u110 u111 u112 u113 u114 u115 u116 u117 u118 u119 u120 u121 u122 u123 u124 u125 u126 u127 u128 u129 u130 u131 u132 u133 u134 u135 u136 u137 u138 u139 u140 u141 u142 u143 u144 u145 u146 u147 u148 u149 u150 u151 u152 u153 u154 u155 u156 u157 u158 u159 u160 u161 u162 u163 u164 u165 u166 u167 u170 u171 u172 u173 u174 u175 u176 u177 u178 u179 u180 u181 u182 u183 u184 u185 u186 u187 u188 u189 u190 u191 u192 u193 u194 u195 u196 u197 u198 u199 u200 u201 u202 u203 u204 u205 u206 u207 u208 u209 u210 u211 u212 u213 u214 u215 u216 u217 u218 u219 u220 u221 : Value) (Q : Exit → Act → World → Prop) (hg : gOk l (D : Int) c = true) (hcz : zs.length ≤ cz) (hz : RdZ W0 W0.heap.size A zs) (hG : (ga, Obj.cells #[.int .i64 l, .int .i64 (D : Int), .int .i64 c] 25 (0, 0)) ∈ KL) (hfr : fr ≤ 500) (hmm : mm ≤ 28) (hR : (Ad, wlist (gCap l (D : Int) c) (valOf l (D : Int) c (fun t => datL zs t (roW l (D : Int)))) (fr : Int) mm) ∈ RL) (hI : (0 ≤ mm ∧ KS W0 w b H M KL RL []))
    (hX : ∀ (v12 v28 v29 v30 v31 v32 v33 v34 v170 v171 v172 v173 v174 v175 v176 v177 v178 v179 v180 v181 v182 v183 v184 v185 v186 v187 v188 v189 v190 v191 v192 v193 v194 v195 v196 v197 v198 v199 v200 v201 v202 v203 v204 v205 v206 v207 v208 v209 v210 v211 v212 : Value) (ix : Nat) (V : World), (ix ≤ mm ∧ KS W0 V b H M KL RL []) → (ix = mm) → Q (.exit 4) ⟨List.toArray (u0 :: u1 :: (.slice A zs.length cz) :: u3 :: u4 :: u5 :: u6 :: u7 :: u8 :: u9 :: u10 :: u11 :: v12 :: (.pointer (some ⟨ga, 0, none⟩)) :: u14 :: u15 :: u16 :: u17 :: u18 :: u19 :: u20 :: u21 :: u22 :: u23 :: (.slice Ad mm cd) :: u25 :: (.int .i64 (fr : Int)) :: u27 :: v28 :: v29 :: v30 :: v31 :: v32 :: v33 :: v34 :: u35 :: u36 :: u37 :: u38 :: u39 :: u40 :: u41 :: u42 :: u43 :: u44 :: u45 :: u46 :: u47 :: u48 :: u49 :: u50 :: u51 :: u52 :: u53 :: u54 :: u55 :: u56 :: u57 :: u58 :: u59 :: u60 :: u61 :: u62 :: u63 :: u64 :: u65 :: u66 :: u67 :: u68 :: u69 :: u70 :: u71 :: u72 :: u73 :: u74 :: u75 :: u76 :: u77 :: u78 :: u79 :: u80 :: u81 :: u82 :: u83 :: u84 :: u85 :: u86 :: u87 :: u88 :: u89 :: u90 :: u91 :: u92 :: u93 :: u94 :: u95 :: u96 :: u97 :: u98 :: u99 :: u100 :: u101 :: u102 :: u103 :: u104 :: u105 :: u106 :: u107 :: u108 :: u109 :: u110 :: u111 :: u112 :: u113 :: u114 :: u115 :: u116 :: u117 :: u118 :: u119 :: u120 :: u121 :: u122 :: u123 :: u124 :: u125 :: u126 :: u127 :: u128 :: u129 :: u130 :: u131 :: u132 :: u133 :: u134 :: u135 :: u136 :: u137 :: u138 :: u139 :: u140 :: u141 :: u142 :: u143 :: u144 :: u145 :: u146 :: u147 :: u148 :: u149 :: u150 :: u151 :: u152 :: u153 :: u154 :: u155 :: u156 :: u157 :: u158 :: u159 :: u160 :: u161 :: u162 :: u163 :: u164 :: u165 :: u166 :: u167 :: (.int .i64 (mm : Int)) :: (.int .i64 ((ix : Nat) : Int)) :: v170 :: v171 :: v172 :: v173 :: v174 :: v175 :: v176 :: v177 :: v178 :: v179 :: v180 :: v181 :: v182 :: v183 :: v184 :: v185 :: v186 :: v187 :: v188 :: v189 :: v190 :: v191 :: v192 :: v193 :: v194 :: v195 :: v196 :: v197 :: v198 :: v199 :: v200 :: v201 :: v202 :: v203 :: v204 :: v205 :: v206 :: v207 :: v208 :: v209 :: v210 :: v211 :: v212 :: u213 :: u214 :: u215 :: u216 :: u217 :: u218 :: u219 :: u220 :: u221 :: []), []⟩ V) :
    Code.wp Tryz.prog (.loop (sub [1, 1, 1, 1, 1, 1, 1, 1, 1, 1, 1, 1, 1, 1, 0, 1, 0, 0, 1, 0, 0, 1, 1, 1, 0, 1, 0, 0] codeWC)) Q ⟨List.toArray (u0 :: u1 :: (.slice A zs.length cz) :: u3 :: u4 :: u5 :: u6 :: u7 :: u8 :: u9 :: u10 :: u11 :: u12 :: (.pointer (some ⟨ga, 0, none⟩)) :: u14 :: u15 :: u16 :: u17 :: u18 :: u19 :: u20 :: u21 :: u22 :: u23 :: (.slice Ad mm cd) :: u25 :: (.int .i64 (fr : Int)) :: u27 :: u28 :: u29 :: u30 :: u31 :: u32 :: u33 :: u34 :: u35 :: u36 :: u37 :: u38 :: u39 :: u40 :: u41 :: u42 :: u43 :: u44 :: u45 :: u46 :: u47 :: u48 :: u49 :: u50 :: u51 :: u52 :: u53 :: u54 :: u55 :: u56 :: u57 :: u58 :: u59 :: u60 :: u61 :: u62 :: u63 :: u64 :: u65 :: u66 :: u67 :: u68 :: u69 :: u70 :: u71 :: u72 :: u73 :: u74 :: u75 :: u76 :: u77 :: u78 :: u79 :: u80 :: u81 :: u82 :: u83 :: u84 :: u85 :: u86 :: u87 :: u88 :: u89 :: u90 :: u91 :: u92 :: u93 :: u94 :: u95 :: u96 :: u97 :: u98 :: u99 :: u100 :: u101 :: u102 :: u103 :: u104 :: u105 :: u106 :: u107 :: u108 :: u109 :: u110 :: u111 :: u112 :: u113 :: u114 :: u115 :: u116 :: u117 :: u118 :: u119 :: u120 :: u121 :: u122 :: u123 :: u124 :: u125 :: u126 :: u127 :: u128 :: u129 :: u130 :: u131 :: u132 :: u133 :: u134 :: u135 :: u136 :: u137 :: u138 :: u139 :: u140 :: u141 :: u142 :: u143 :: u144 :: u145 :: u146 :: u147 :: u148 :: u149 :: u150 :: u151 :: u152 :: u153 :: u154 :: u155 :: u156 :: u157 :: u158 :: u159 :: u160 :: u161 :: u162 :: u163 :: u164 :: u165 :: u166 :: u167 :: (.int .i64 (mm : Int)) :: (.int .i64 ((0 : Nat) : Int)) :: u170 :: u171 :: u172 :: u173 :: u174 :: u175 :: u176 :: u177 :: u178 :: u179 :: u180 :: u181 :: u182 :: u183 :: u184 :: u185 :: u186 :: u187 :: u188 :: u189 :: u190 :: u191 :: u192 :: u193 :: u194 :: u195 :: u196 :: u197 :: u198 :: u199 :: u200 :: u201 :: u202 :: u203 :: u204 :: u205 :: u206 :: u207 :: u208 :: u209 :: u210 :: u211 :: u212 :: u213 :: u214 :: u215 :: u216 :: u217 :: u218 :: u219 :: u220 :: u221 :: []), []⟩ w := by
  refine wp_loop_ghost (fun gk a V => ∀ C : Prop, (∀ (u12 u28 u29 u30 u31 u32 u33 u34 u170 u171 u172 u173 u174 u175 u176 u177 u178 u179 u180 u181 u182 u183 u184 u185 u186 u187 u188 u189 u190 u191 u192 u193 u194 u195 u196 u197 u198 u199 u200 u201 u202 u203 u204 u205 u206 u207 u208 u209 u210 u211 u212 : Value) (ix : Nat), gk = mm - ix → (ix ≤ mm ∧ KS W0 V b H M KL RL []) → a = ⟨List.toArray (u0 :: u1 :: (.slice A zs.length cz) :: u3 :: u4 :: u5 :: u6 :: u7 :: u8 :: u9 :: u10 :: u11 :: u12 :: (.pointer (some ⟨ga, 0, none⟩)) :: u14 :: u15 :: u16 :: u17 :: u18 :: u19 :: u20 :: u21 :: u22 :: u23 :: (.slice Ad mm cd) :: u25 :: (.int .i64 (fr : Int)) :: u27 :: u28 :: u29 :: u30 :: u31 :: u32 :: u33 :: u34 :: u35 :: u36 :: u37 :: u38 :: u39 :: u40 :: u41 :: u42 :: u43 :: u44 :: u45 :: u46 :: u47 :: u48 :: u49 :: u50 :: u51 :: u52 :: u53 :: u54 :: u55 :: u56 :: u57 :: u58 :: u59 :: u60 :: u61 :: u62 :: u63 :: u64 :: u65 :: u66 :: u67 :: u68 :: u69 :: u70 :: u71 :: u72 :: u73 :: u74 :: u75 :: u76 :: u77 :: u78 :: u79 :: u80 :: u81 :: u82 :: u83 :: u84 :: u85 :: u86 :: u87 :: u88 :: u89 :: u90 :: u91 :: u92 :: u93 :: u94 :: u95 :: u96 :: u97 :: u98 :: u99 :: u100 :: u101 :: u102 :: u103 :: u104 :: u105 :: u106 :: u107 :: u108 :: u109 :: u110 :: u111 :: u112 :: u113 :: u114 :: u115 :: u116 :: u117 :: u118 :: u119 :: u120 :: u121 :: u122 :: u123 :: u124 :: u125 :: u126 :: u127 :: u128 :: u129 :: u130 :: u131 :: u132 :: u133 :: u134 :: u135 :: u136 :: u137 :: u138 :: u139 :: u140 :: u141 :: u142 :: u143 :: u144 :: u145 :: u146 :: u147 :: u148 :: u149 :: u150 :: u151 :: u152 :: u153 :: u154 :: u155 :: u156 :: u157 :: u158 :: u159 :: u160 :: u161 :: u162 :: u163 :: u164 :: u165 :: u166 :: u167 :: (.int .i64 (mm : Int)) :: (.int .i64 ((ix : Nat) : Int)) :: u170 :: u171 :: u172 :: u173 :: u174 :: u175 :: u176 :: u177 :: u178 :: u179 :: u180 :: u181 :: u182 :: u183 :: u184 :: u185 :: u186 :: u187 :: u188 :: u189 :: u190 :: u191 :: u192 :: u193 :: u194 :: u195 :: u196 :: u197 :: u198 :: u199 :: u200 :: u201 :: u202 :: u203 :: u204 :: u205 :: u206 :: u207 :: u208 :: u209 :: u210 :: u211 :: u212 :: u213 :: u214 :: u215 :: u216 :: u217 :: u218 :: u219 :: u220 :: u221 :: []), []⟩ → C) → C) (mm - 0) ?_ ?_
  · intro C hC
    exact hC _ _ _ _ _ _ _ _ _ _ _ _ _ _ _ _ _ _ _ _ _ _ _ _ _ _ _ _ _ _ _ _ _ _ _ _ _ _ _ _ _ _ _ _ _ _ _ _ _ _ _ (0) rfl hI rfl
  · intro gk a V hI'
    refine hI' _ ?_
    intro u12 u28 u29 u30 u31 u32 u33 u34 u170 u171 u172 u173 u174 u175 u176 u177 u178 u179 u180 u181 u182 u183 u184 u185 u186 u187 u188 u189 u190 u191 u192 u193 u194 u195 u196 u197 u198 u199 u200 u201 u202 u203 u204 u205 u206 u207 u208 u209 u210 u211 u212 ix hk hinv ha
    subst ha
    subst hk
    refine wcIb _ _ _ _ _ _ _ _ _ _ _ _ _ _ _ _ _ _ _ _ _ _ _ _ _ _ _ _ _ _ _ _ _ _ _ _ _ _ _ _ _ _ _ _ _ _ _ _ _ _ _ _ _ _ _ _ _ _ _ _ _ _ _ _ _ _ _ _ _ _ _ _ _ _ _ _ _ _ _ _ _ _ _ _ _ _ _ _ _ _ _ _ _ _ _ _ _ _ _ _ _ _ _ _ _ _ _ _ _ _ _ _ _ _ _ _ _ _ _ _ _ _ _ _ _ _ _ _ _ _ _ _ _ _ _ _ _ _ _ _ _ _ _ _ _ _ _ _ _ _ _ _ _ _ _ _ _ _ _ _ _ _ _ _ _ _ _ _ _ _ _ _ _ _ _ _ _ _ _ _ _ _ _ _ _ _ _ _ _ _ _ _ _ _ _ _ _ _ _ _ _ _ _ _ _ _ _ _ _ _ _ _ _ _ _ _ _ _ hg hcz hz hG hfr hmm hR hinv (fun v12 v28 v29 v30 v31 v32 v33 v34 v170 v171 v172 v173 v174 v175 v176 v177 v178 v179 v180 v181 v182 v183 v184 v185 v186 v187 v188 v189 v190 v191 v192 v193 v194 v195 v196 v197 v198 v199 v200 v201 v202 v203 v204 v205 v206 v207 v208 v209 v210 v211 v212  V2 h2 hm => ?_) (fun v12 v28 v29 v30 v31 v32 v33 v34 v170 v171 v172 v173 v174 v175 v176 v177 v178 v179 v180 v181 v182 v183 v184 v185 v186 v187 v188 v189 v190 v191 v192 v193 v194 v195 v196 v197 v198 v199 v200 v201 v202 v203 v204 v205 v206 v207 v208 v209 v210 v211 v212 hx => hX v12 v28 v29 v30 v31 v32 v33 v34 v170 v171 v172 v173 v174 v175 v176 v177 v178 v179 v180 v181 v182 v183 v184 v185 v186 v187 v188 v189 v190 v191 v192 v193 v194 v195 v196 v197 v198 v199 v200 v201 v202 v203 v204 v205 v206 v207 v208 v209 v210 v211 v212 ix V hinv hx)
    refine ⟨_, hm, fun C hC => ?_⟩
    exact hC v12 v28 v29 v30 v31 v32 v33 v34 v170 v171 v172 v173 v174 v175 v176 v177 v178 v179 v180 v181 v182 v183 v184 v185 v186 v187 v188 v189 v190 v191 v192 v193 v194 v195 v196 v197 v198 v199 v200 v201 v202 v203 v204 v205 v206 v207 v208 v209 v210 v211 v212 ((ix + 1)) rfl h2 rfl
set_option maxRecDepth 100000 in
set_option maxHeartbeats 3200000 in
theorem wcP {W0 : World} {b : Nat} {H : BH} {M : Bch} {e : Int} {w : World} (u0 u1 u2 u3 u4 u5 u6 u7 u8 u9 u10 u11 u12 u13 u14 u16 u17 u18 u19 u20 u21 u23 u24 u25 u26 u27 u28 u29 u30 u31 u32 u33 u34 u35 u36 u37 u38 u39 u40 u41 u42 u43 u44 u45 u46 u47 u48 u49 u50 u51 u52 u53 u54 u55 u56 u57 u58 u59 u60 u61 u62 u63 u64 u65 u66 u67 u68 u69 u70 u71 u72 u73 u74 u75 u76 u77 u78 u79 u80 u81 u82 u83 u84 u85 u86 u87 u88 u89 u90 u91 u92 u93 u94 u95 u96 u97 u98 u99 u100 u101 u102 u103 u104 u105 u106 u107 u108 u109 u110 u111 u112 u113 u114 u115 u116 u117 u118 u119 u120 u121 u122 u123 u124 u125 u126 u127 u128 u129 u130 u131 u132 u133 u134 u135 u136 u137 u138 u139 u140 u141 u142 u143 u144 u145 u146 u147 u148 u149 u150 u151 u152 u153 u154 u155 u156 u157 u158 u159 u160 u161 u162 u163 u164 u165 u166 u167 u168 u169 u170 u171 u172 u173 u174 u175 u176 u177 u178 u179 u180 u181 u182 u183 u184 u185 u186 u187 u188 u189 u190 u191 u192 u193 u194 u195 u196 u197 u198 u199 u200 u201 u202 u203 u204 u205 u206 u207 u208 u209 u210 u211 u212 u213 u214 u215 u216 u217 u218 u219 u220 u221 : Value) (K : Act → World → Prop) (Q0 : Exit → Act → World → Prop) (hb : BP W0 w b H M) (hE : (e = 0 ∧ M.down = false) ∨ (e = 6 ∧ M.down = true))
    (hK : ∀ (v106 v107 v108 v109 v110 v111 v112 v113 v114 v115 v116 v117 v118 v119 : Value), K ⟨List.toArray (u0 :: u1 :: u2 :: u3 :: u4 :: u5 :: u6 :: u7 :: u8 :: u9 :: u10 :: u11 :: u12 :: u13 :: u14 :: (.pointer (some ⟨b, 0, none⟩)) :: u16 :: u17 :: u18 :: u19 :: u20 :: u21 :: (.int .i64 e) :: u23 :: u24 :: u25 :: u26 :: u27 :: u28 :: u29 :: u30 :: u31 :: u32 :: u33 :: u34 :: u35 :: u36 :: u37 :: u38 :: u39 :: u40 :: u41 :: u42 :: u43 :: u44 :: u45 :: u46 :: u47 :: u48 :: u49 :: u50 :: u51 :: u52 :: u53 :: u54 :: u55 :: u56 :: u57 :: u58 :: u59 :: u60 :: u61 :: u62 :: u63 :: u64 :: u65 :: u66 :: u67 :: u68 :: u69 :: u70 :: u71 :: u72 :: u73 :: u74 :: u75 :: u76 :: u77 :: u78 :: u79 :: u80 :: u81 :: u82 :: u83 :: u84 :: u85 :: u86 :: u87 :: u88 :: u89 :: u90 :: u91 :: u92 :: u93 :: u94 :: u95 :: u96 :: u97 :: u98 :: u99 :: u100 :: u101 :: u102 :: u103 :: u104 :: u105 :: v106 :: v107 :: v108 :: v109 :: v110 :: v111 :: v112 :: v113 :: v114 :: v115 :: v116 :: v117 :: v118 :: v119 :: (.bool false) :: u121 :: u122 :: u123 :: u124 :: u125 :: u126 :: u127 :: u128 :: u129 :: u130 :: u131 :: u132 :: u133 :: u134 :: u135 :: u136 :: u137 :: u138 :: u139 :: u140 :: u141 :: u142 :: u143 :: u144 :: u145 :: u146 :: u147 :: u148 :: u149 :: u150 :: u151 :: u152 :: u153 :: u154 :: u155 :: u156 :: u157 :: u158 :: u159 :: u160 :: u161 :: u162 :: u163 :: u164 :: u165 :: u166 :: u167 :: u168 :: u169 :: u170 :: u171 :: u172 :: u173 :: u174 :: u175 :: u176 :: u177 :: u178 :: u179 :: u180 :: u181 :: u182 :: u183 :: u184 :: u185 :: u186 :: u187 :: u188 :: u189 :: u190 :: u191 :: u192 :: u193 :: u194 :: u195 :: u196 :: u197 :: u198 :: u199 :: u200 :: u201 :: u202 :: u203 :: u204 :: u205 :: u206 :: u207 :: u208 :: u209 :: u210 :: u211 :: u212 :: u213 :: u214 :: u215 :: u216 :: u217 :: u218 :: u219 :: u220 :: u221 :: []), []⟩ w) :
    Code.wp Tryz.prog (sub [1, 1, 1, 1, 1, 1, 1, 1, 1, 1, 1, 0, 0] codeWC) (Exit.then K Q0) ⟨List.toArray (u0 :: u1 :: u2 :: u3 :: u4 :: u5 :: u6 :: u7 :: u8 :: u9 :: u10 :: u11 :: u12 :: u13 :: u14 :: (.pointer (some ⟨b, 0, none⟩)) :: u16 :: u17 :: u18 :: u19 :: u20 :: u21 :: (.int .i64 e) :: u23 :: u24 :: u25 :: u26 :: u27 :: u28 :: u29 :: u30 :: u31 :: u32 :: u33 :: u34 :: u35 :: u36 :: u37 :: u38 :: u39 :: u40 :: u41 :: u42 :: u43 :: u44 :: u45 :: u46 :: u47 :: u48 :: u49 :: u50 :: u51 :: u52 :: u53 :: u54 :: u55 :: u56 :: u57 :: u58 :: u59 :: u60 :: u61 :: u62 :: u63 :: u64 :: u65 :: u66 :: u67 :: u68 :: u69 :: u70 :: u71 :: u72 :: u73 :: u74 :: u75 :: u76 :: u77 :: u78 :: u79 :: u80 :: u81 :: u82 :: u83 :: u84 :: u85 :: u86 :: u87 :: u88 :: u89 :: u90 :: u91 :: u92 :: u93 :: u94 :: u95 :: u96 :: u97 :: u98 :: u99 :: u100 :: u101 :: u102 :: u103 :: u104 :: u105 :: u106 :: u107 :: u108 :: u109 :: u110 :: u111 :: u112 :: u113 :: u114 :: u115 :: u116 :: u117 :: u118 :: u119 :: u120 :: u121 :: u122 :: u123 :: u124 :: u125 :: u126 :: u127 :: u128 :: u129 :: u130 :: u131 :: u132 :: u133 :: u134 :: u135 :: u136 :: u137 :: u138 :: u139 :: u140 :: u141 :: u142 :: u143 :: u144 :: u145 :: u146 :: u147 :: u148 :: u149 :: u150 :: u151 :: u152 :: u153 :: u154 :: u155 :: u156 :: u157 :: u158 :: u159 :: u160 :: u161 :: u162 :: u163 :: u164 :: u165 :: u166 :: u167 :: u168 :: u169 :: u170 :: u171 :: u172 :: u173 :: u174 :: u175 :: u176 :: u177 :: u178 :: u179 :: u180 :: u181 :: u182 :: u183 :: u184 :: u185 :: u186 :: u187 :: u188 :: u189 :: u190 :: u191 :: u192 :: u193 :: u194 :: u195 :: u196 :: u197 :: u198 :: u199 :: u200 :: u201 :: u202 :: u203 :: u204 :: u205 :: u206 :: u207 :: u208 :: u209 :: u210 :: u211 :: u212 :: u213 :: u214 :: u215 :: u216 :: u217 :: u218 :: u219 :: u220 :: u221 :: []), []⟩ w := by
  have HK := Lib.hid hK
  clear hK
  conv => arg 2; whnf
  have CDn := Lib.hid (bp_down W0 w b H M hb)
  rcases hE with ⟨rfl, hdn⟩ | ⟨rfl, hdn⟩
  · rw [hdn] at CDn
    clear hdn hb
    go_wp2_with fail
    (with_reducible refine CDn.out.mono ?_); rintro e w10 ⟨rfl, h10⟩
    obtain rfl : w = w10 := h10.symm
    clear h10
    go_wp2_with fail
    exact HK.out _ _ _ _ _ _ _ _ _ _ _ _ _ _ 
  · rw [hdn] at CDn
    clear hdn hb
    go_wp2_with fail
    (with_reducible refine CDn.out.mono ?_); rintro e w10 ⟨rfl, h10⟩
    obtain rfl : w = w10 := h10.symm
    clear h10
    go_wp2_with fail
    exact HK.out _ _ _ _ _ _ _ _ _ _ _ _ _ _ 
end Go.Proofs.YtldfoadildaljaaGreat
end
