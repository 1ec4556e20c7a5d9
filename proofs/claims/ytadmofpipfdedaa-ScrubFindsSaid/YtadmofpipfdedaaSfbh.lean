/- Texts put together: ScrSet, ScrubFindsLoops. -/
import Derived.Test.YtadmofpipfdedaaSfbg
import Derived.Test.YtadmofpipfdedaaSfah
import Derived.Test.YtadmofpipfdedaaSfbf
import Derived.StillTailTactics
section
set_option maxRecDepth 20000
set_option linter.unusedVariables false
set_option linter.unusedSimpArgs false
namespace Go.Proofs.Ytadmofpipfdedaa
open Go.RowKit

theorem nodup_le : ∀ (n : Nat) {xs : List Int}, xs.Nodup → (∀ x ∈ xs, 0 ≤ x ∧ x < (n : Int)) → xs.length ≤ n
  | 0, xs, _, hb => by
    cases xs with
    | nil => exact Nat.le_refl _
    | cons x l => have := hb x (List.mem_cons_self ..); omega
  | n + 1, xs, hn, hb => by
    by_cases h : ((n : Nat) : Int) ∈ xs
    · have := nodup_le n (xs := xs.erase (n : Int)) (hn.erase _) (fun x hx => by
        obtain ⟨h1, h2⟩ := (List.Nodup.mem_erase_iff hn).1 hx
        have := hb x h2
        omega)
      rw [List.length_erase_of_mem h] at this
      omega
    · have := nodup_le n hn (fun x hx => by
        have h1 := hb x hx
        have h2 : x ≠ (n : Int) := fun e => h (by rw [← e]; exact hx)
        omega)
      omega
theorem SetI.heap {w w' : World} {B : Nat} {xs : List Int} (h : SetI w B xs) (hk : w'.heap[B]? = w.heap[B]?) : SetI w' B xs := by
  obtain ⟨D, ⟨es, clock, hb, hr⟩, h2⟩ := h
  exact ⟨D, ⟨es, clock, hk.trans hb, hr⟩, h2⟩
structure MI (w : World) (b : Nat) (H : BH) (n : Nat) (K : List (Nat × Obj)) (W : World) (mb : Nat) (xs : List Int) : Prop where
  st : SetI w mb xs
  lo : W.heap.size ≤ mb
  ne : ¬ BF b H n mb ∧ ∀ q ∈ K, q.1 ≠ mb
  nd : xs.Nodup
  bd : ∀ x ∈ xs, 0 ≤ x ∧ x < ((16 : Nat) : Int)
section
variable {W w w' : World} {b : Nat} {H : BH} {N : Bch} {K : List (Nat × Obj)} {R : List (Option Addr × List (List UInt8))} {S : List (Option Addr × List UInt8)} {mb n : Nat} {xs : List Int}
theorem MI.below (h : MI w b H n K W mb xs) (hb : Below w.heap.size w w') : MI w' b H n K W mb xs := ⟨h.st.below hb, h.lo, h.ne, h.nd, h.bd⟩
theorem MI.bc (h : MI w b H n K W mb xs) {H' : BH} (c : Chg (BF b H n) w w') (m : BNew w b H H' n) : MI w' b H' n K W mb xs :=
  ⟨h.st.heap (c.block mb h.st.lt h.ne.1), h.lo, ⟨fun q => h.ne.1 (bnew_weak m mb h.st.lt q), h.ne.2⟩, h.nd, h.bd⟩
theorem MI.new (k : KS W w b H N K [] []) : KS W (w.alloc (.map #[] 0)) b H N K [] [] ∧ MI (w.alloc (.map #[] 0)) b H N.n K W w.heap.size [] :=
  ⟨k.below (below1 w _), setI_new w, k.bp.bel.size, ⟨fun q => by have := k.flt _ q; omega, fun q hq e => by have := (Array.getElem?_eq_some_iff.1 (k.kx.kp q hq).1).1; omega⟩, List.nodup_nil, fun x hx => absurd hx (by simp)⟩
theorem MI.put (h : MI w b H N.n K W mb xs) (k : KS W w b H N K [] []) {x : Int} (hx : 0 ≤ x ∧ x < 16) (hn : x ∉ xs) :
    ∃ w', (Instr.mapUpdate 65 (.map (some mb)) (.int .i64 x) (.bool true)).run Try.prog w = .ok () w' ∧ KS W w' b H N K [] [] ∧ MI w' b H N.n K W mb (x :: xs) := by
  have hl := nodup_le 16 h.nd h.bd
  obtain ⟨w', h1, h2, h3⟩ := h.st.store (by omega) x ⟨by omega, by omega⟩ hn
  refine ⟨w', h1, k.far h3 fun p e => by injection e with e; subst e; exact ⟨h.lo, h.ne.1, h.ne.2⟩, h2, h.lo, h.ne, List.nodup_cons.2 ⟨hn, h.nd⟩, fun z hz => ?_⟩
  rcases List.mem_cons.1 hz with rfl | hz
  · exact ⟨hx.1, hx.2⟩
  · exact h.bd z hz
theorem ks_damage_mi (h : KS W w b H N K R S) (hw : MI w b H N.n K W mb xs) (d k : Int) (x : List UInt8) (A : Option Addr) (m c : Nat) (hm : m = x.length) (hd : i64B d) (hk : i64B k) (hr : RdB w w.heap.size A x) (hps : ∀ i, i < N.n → (N.D i).ps.length ≤ 2000000) :
    Calls Try.prog 33 #[.pointer (some ⟨b, 0, none⟩), .int .i64 d, .int .i64 k, .slice A m c] w fun e w' => e = .returned (.int .i64 (N.damageE d k m)) ∧ ∃ H', KS W w' b H' (N.damage d k x) K R S ∧ MI w' b H' (N.damage d k x).n K W mb xs := by
  refine (bch_damage_any _ b H N w h.bp.at' d k x A m c hm hd hk hr hps).mono ?_
  rintro e w' ⟨rfl, ht⟩
  obtain ⟨H', a, c, m⟩ := h.bp.to ht
  exact ⟨rfl, H', h.bcH a c m (damage_n _ _ _ _), by rw [damage_n]; exact hw.bc c m⟩
theorem ks_fail_mi (h : KS W w b H N K R S) (hw : MI w b H N.n K W mb xs) (d : Int) (hd : i64B d) : Calls Try.prog 15 #[.pointer (some ⟨b, 0, none⟩), .int .i64 d] w fun e w' => e = .returned (.int .i64 (N.pickE d)) ∧ ∃ H', KS W w' b H' (N.fail d) K R S ∧ MI w' b H' (N.fail d).n K W mb xs := by
  refine (bp_fail W w b H N h.bp d hd).mono ?_
  rintro e w' ⟨rfl, ht⟩
  obtain ⟨H', a, c, m⟩ := ht
  exact ⟨rfl, H', h.bcH a c m (fail_n _ _), by rw [fail_n]; exact hw.bc c m⟩
end
/-- The set as a block that is kept. -/
theorem MI.keep {W w : World} {b : Nat} {H : BH} {N : Bch} {K : List (Nat × Obj)} {mb : Nat} {xs : List Int} (h : MI w b H N.n K W mb xs) (k : KS W w b H N K [] []) : ∃ om, KS W w b H N ((mb, om) :: K) [] [] ∧ ∀ V : World, V.heap[mb]? = some om → SetI V mb xs := by
  have hst := h.st
  obtain ⟨D, ⟨es, clock, hb, hr⟩, h2⟩ := hst
  refine ⟨_, ⟨⟨k.bp, fun p hp => ?_⟩, fun _ hp => absurd hp (by simp), fun _ hp => absurd hp (by simp)⟩, fun V hV => h.st.heap (hV.trans hb.symm)⟩
  rcases List.mem_cons.1 hp with rfl | hp
  · exact ⟨hb, h.ne.1, h.lo⟩
  · exact k.kx.kp p hp
/-- Just the rows of xs are spoilt. -/
structure Sq (M : Bch) (m : Nat) (G : RG) (rs : Nat → List (List UInt8)) (xs : List Int) : Prop where
  gd : Gd M m
  sp : ∀ r, r < 16 → Spo M G rs r (decide ((r : Int) ∈ xs))
section
variable {M : Bch} {m : Nat} {G : RG} {xs : List Int} {rs : Nat → List (List UInt8)}
theorem Fb.sq {zs : List Int} (hf : Fb M m (rowG G zs) 16 0) (hle : ∀ t, t < 16 → G.D t ≤ (m : Int)) (hG : G.ok = true) : Sq M m G (rsZ G zs) [] := ⟨hf.gd, fun r hr => by
  have hm := hle r hr
  rw [decide_eq_false (by simp)]
  exact Spo.good hG (rows_dat G zs) hr fun i hi => hf.st hle hG hr (by omega)⟩
theorem Sq.row (h : Sq M m G rs xs) {r : Nat} (hr : r < 16) (hn : (r : Int) ∉ xs) : ∀ i, i < (G.D r).toNat → secAt (M.D i).now (36 + r) = (flR G rs r).getD i [] := by
  have := h.sp r hr
  rw [decide_eq_false hn] at this
  exact this.was
theorem Sq.step (h : Sq M m G rs xs) (hle : ∀ t, t < 16 → G.D t ≤ (m : Int)) {r d : Nat} (hr : r < 16) (hn : (r : Int) ∉ xs) (hd : d < (G.D r).toNat) {y : List UInt8} (hy : y.length = 32) (hne : y ≠ secAt (M.D d).now (36 + r)) : Sq (M.damage (d : Int) ((36 + r : Nat) : Int) y) m G rs ((r : Int) :: xs) := by
  have hm := hle r hr
  have hdm : d < m := by omega
  refine ⟨gd_damage h.gd hdm (by omega) hy, fun t ht => ?_⟩
  by_cases e : t = r
  · subst e
    rw [decide_eq_true (List.mem_cons_self ..)]
    refine Spo.bad hd hy (by rw [← h.row hr hn d hd]; exact hne) fun i hi => ?_
    rw [sec_damage h.gd hdm (by omega) hy]
    by_cases e : i = d
    · rw [if_pos ⟨e, rfl⟩, if_pos e]
    · rw [if_neg (fun q => e q.1), if_neg e]; exact h.row hr hn i hi
  · have hd : decide ((t : Int) ∈ (r : Int) :: xs) = decide ((t : Int) ∈ xs) := by
      simp only [List.mem_cons]
      exact decide_eq_decide.2 ⟨fun q => q.resolve_left (by omega), .inr⟩
    rw [hd]
    refine (h.sp t ht).keep fun i hi => ?_
    rw [sec_damage h.gd hdm (by omega) hy, if_neg (fun q => e (by omega))]
/-- What a scrub tells, where disk gone has failed, or is not live; where none is (gone past them all). -/
theorem Sq.told {M2 : Bch} (h : Sq M m G rs xs) (hG : G.ok = true) (hR : RowsOk G rs) (hle : ∀ t, t < 16 → G.D t ≤ (m : Int)) {lv : List Bool} {gone : Int} (hD : ∀ i, i < m → (i : Int) ≠ gone → M2.D i = M.D i) (hs : ∀ i, i < m → srvD M2 lv i = decide ((i : Int) ≠ gone)) {r : Nat} (hr : r < 16) : scB M2 lv G r = (decide ((r : Int) ∈ xs) && (decide (gone < 0) || decide (G.D r ≤ gone))) := by
  have hm := hle r hr
  by_cases hg : gone < 0 ∨ G.D r ≤ gone
  · have h1 := (h.sp r hr).keep (M := M2) fun i hi => by rw [hD i (by omega) (by omega)]
    rw [h1.told hG hR hr fun i hi => by rw [hs i (by omega)]; exact decide_eq_true (by omega)]
    rw [show (decide (gone < 0) || decide (G.D r ≤ gone)) = true by simpa using hg, Bool.and_true]
  · obtain ⟨k, rfl⟩ : ∃ k : Nat, gone = (k : Int) := ⟨gone.toNat, by omega⟩
    rw [show (decide ((k : Int) < 0) || decide (G.D r ≤ (k : Int))) = false by rw [decide_eq_false (by omega), decide_eq_false (by omega)]; rfl, Bool.and_false]
    unfold scB
    rw [scS_no (i := k) (by omega) (by rw [hs k (by omega)]; simp)]; rfl
end
end Go.Proofs.Ytadmofpipfdedaa
end
section
set_option linter.unusedVariables false
set_option linter.unusedSimpArgs false
namespace Go.Proofs.Ytadmofpipfdedaa
open Go.RowKit

noncomputable def codeSF : Code := Try.f8.body.getD .skip
set_option maxRecDepth 100000 in
set_option maxHeartbeats 3200000 in
theorem sfAb {W0 : World} {b D D' ga gt mb cz : Nat} {l c l' c' s : Int} {A2 : Option Addr} {zs : List Int} {KK : List (Nat × Obj)} {G : RG} {rs : Nat → List (List UInt8)} {i : Nat} {H : BH} {M : Bch} {xs : List Int} {w : World} (u0 u1 u3 u4 u5 u6 u7 u8 u9 u10 u11 u12 u16 u18 u19 u20 u21 u22 u23 u24 u25 u26 u27 u28 u29 u30 u31 u32 u33 u34 u35 u36 u37 u38 u39 u40 u41 u42 u43 u44 u45 u46 u47 u48 u49 u50 u51 u55 u56 u57 u58 u59 u60 u61 u62 u63 u64 u65 u66 u67 u68 u69 u70 u71 u72 u73 u74 u75 u76 u77 u78 u79 u80 u81 u82 u83 u84 u85 u86 u87 u88 u89 u90 u91 u92 u93 u94 u95 u96 u97 u98 u99 u100 u101 u102 u103 u104 u105 u106 u107 u108 u109 u110 u111 u112 u113 u114 u115 u116 u117 u118 u119 u120 u121 u122 u123 u124 u125 u126 u127 u128 u129 u130 u131 u132 u133 u134 u135 u136 u137 u138 u139 u140 u141 u142 u143 u144 u145 u146 u147 u148 u149 u150 u151 u152 u153 u154 u155 u156 u157 u158 u159 u160 u161 u162 u163 u164 u165 u166 u167 u168 u169 u170 u171 u172 u173 u174 u175 u176 : Value) (K : Act → World → Prop) (Q0 : Exit → Act → World → Prop) (hmem : (ga, Obj.cells #[.int .i64 l, .int .i64 (D : Int), .int .i64 c] 25 (0, 0)) ∈ KK) (hmt : (gt, Obj.cells #[.int .i64 l', .int .i64 (D' : Int), .int .i64 c'] 25 (0, 0)) ∈ KK) (hD' : D' ≤ 8) (hs : 0 ≤ s ∧ s ≤ 16) (hGe : G = ⟨l, (D : Int), c, l', (D' : Int), c', s⟩) (hG : G.ok = true) (hle : ∀ t, t < 16 → G.D t ≤ (D' : Int)) (hz : RdZ W0 W0.heap.size A2 zs) (hI : (i ≤ zs.length ∧ KS W0 w b H M KK [] [] ∧ MI w b H M.n KK W0 mb xs ∧ Sq M D' G rs xs))
    (hK : ∀ (v19 v20 v21 v22 v23 v24 v55 v56 v57 v58 v59 v60 v61 v62 v63 v64 v65 v66 v67 v68 v69 v70 v71 v72 v73 v74 v75 v76 v77 v78 v79 v80 v81 v82 v83 v84 v85 v86 v87 v88 v89 v90 v91 v92 v93 v94 v95 v96 v97 v98 v99 v100 v101 v102 v103 v104 v105 v106 v107 v108 v109 : Value) (H2 : BH) (M2 : Bch) (xs2 : List Int) (V : World), ((i + 1) ≤ zs.length ∧ KS W0 V b H2 M2 KK [] [] ∧ MI V b H2 M2.n KK W0 mb xs2 ∧ Sq M2 D' G rs xs2) → zs.length - (i + 1) < zs.length - i → K ⟨List.toArray (u0 :: u1 :: (.int .i64 s) :: u3 :: u4 :: u5 :: u6 :: u7 :: u8 :: u9 :: u10 :: u11 :: u12 :: (.pointer (some ⟨ga, 0, none⟩)) :: (.pointer (some ⟨gt, 0, none⟩)) :: (.pointer (some ⟨b, 0, none⟩)) :: u16 :: (.map (some mb)) :: u18 :: v19 :: v20 :: v21 :: v22 :: v23 :: v24 :: u25 :: u26 :: u27 :: u28 :: u29 :: u30 :: u31 :: u32 :: u33 :: u34 :: u35 :: u36 :: u37 :: u38 :: u39 :: u40 :: u41 :: u42 :: u43 :: u44 :: u45 :: u46 :: u47 :: u48 :: u49 :: u50 :: u51 :: (.slice A2 zs.length cz) :: (.int .i64 (zs.length : Int)) :: (.int .i64 (((i + 1) : Nat) : Int)) :: v55 :: v56 :: v57 :: v58 :: v59 :: v60 :: v61 :: v62 :: v63 :: v64 :: v65 :: v66 :: v67 :: v68 :: v69 :: v70 :: v71 :: v72 :: v73 :: v74 :: v75 :: v76 :: v77 :: v78 :: v79 :: v80 :: v81 :: v82 :: v83 :: v84 :: v85 :: v86 :: v87 :: v88 :: v89 :: v90 :: v91 :: v92 :: v93 :: v94 :: v95 :: v96 :: v97 :: v98 :: v99 :: v100 :: v101 :: v102 :: v103 :: v104 :: v105 :: v106 :: v107 :: v108 :: v109 :: u110 :: u111 :: u112 :: u113 :: u114 :: u115 :: u116 :: u117 :: u118 :: u119 :: u120 :: u121 :: u122 :: u123 :: u124 :: u125 :: u126 :: u127 :: u128 :: u129 :: u130 :: u131 :: u132 :: u133 :: u134 :: u135 :: u136 :: u137 :: u138 :: u139 :: u140 :: u141 :: u142 :: u143 :: u144 :: u145 :: u146 :: u147 :: u148 :: u149 :: u150 :: u151 :: u152 :: u153 :: u154 :: u155 :: u156 :: u157 :: u158 :: u159 :: u160 :: u161 :: u162 :: u163 :: u164 :: u165 :: u166 :: u167 :: u168 :: u169 :: u170 :: u171 :: u172 :: u173 :: u174 :: u175 :: u176 :: []), []⟩ V)
    (hX : ∀ (v19 v20 v21 v22 v23 v24 v55 v56 v57 v58 v59 v60 v61 v62 v63 v64 v65 v66 v67 v68 v69 v70 v71 v72 v73 v74 v75 v76 v77 v78 v79 v80 v81 v82 v83 v84 v85 v86 v87 v88 v89 v90 v91 v92 v93 v94 v95 v96 v97 v98 v99 v100 v101 v102 v103 v104 v105 v106 v107 v108 v109 : Value), (i = zs.length) → Q0 (.exit 0) ⟨List.toArray (u0 :: u1 :: (.int .i64 s) :: u3 :: u4 :: u5 :: u6 :: u7 :: u8 :: u9 :: u10 :: u11 :: u12 :: (.pointer (some ⟨ga, 0, none⟩)) :: (.pointer (some ⟨gt, 0, none⟩)) :: (.pointer (some ⟨b, 0, none⟩)) :: u16 :: (.map (some mb)) :: u18 :: v19 :: v20 :: v21 :: v22 :: v23 :: v24 :: u25 :: u26 :: u27 :: u28 :: u29 :: u30 :: u31 :: u32 :: u33 :: u34 :: u35 :: u36 :: u37 :: u38 :: u39 :: u40 :: u41 :: u42 :: u43 :: u44 :: u45 :: u46 :: u47 :: u48 :: u49 :: u50 :: u51 :: (.slice A2 zs.length cz) :: (.int .i64 (zs.length : Int)) :: (.int .i64 ((i : Nat) : Int)) :: v55 :: v56 :: v57 :: v58 :: v59 :: v60 :: v61 :: v62 :: v63 :: v64 :: v65 :: v66 :: v67 :: v68 :: v69 :: v70 :: v71 :: v72 :: v73 :: v74 :: v75 :: v76 :: v77 :: v78 :: v79 :: v80 :: v81 :: v82 :: v83 :: v84 :: v85 :: v86 :: v87 :: v88 :: v89 :: v90 :: v91 :: v92 :: v93 :: v94 :: v95 :: v96 :: v97 :: v98 :: v99 :: v100 :: v101 :: v102 :: v103 :: v104 :: v105 :: v106 :: v107 :: v108 :: v109 :: u110 :: u111 :: u112 :: u113 :: u114 :: u115 :: u116 :: u117 :: u118 :: u119 :: u120 :: u121 :: u122 :: u123 :: u124 :: u125 :: u126 :: u127 :: u128 :: u129 :: u130 :: u131 :: u132 :: u133 :: u134 :: u135 :: u136 :: u137 :: u138 :: u139 :: u140 :: u141 :: u142 :: u143 :: u144 :: u145 :: u146 :: u147 :: u148 :: u149 :: u150 :: u151 :: u152 :: u153 :: u154 :: u155 :: u156 :: u157 :: u158 :: u159 :: u160 :: u161 :: u162 :: u163 :: u164 :: u165 :: u166 :: u167 :: u168 :: u169 :: u170 :: u171 :: u172 :: u173 :: u174 :: u175 :: u176 :: []), []⟩ w) :
    Code.wp Try.prog (sub [1, 1, 1, 1, 1, 1, 1, 0, 1, 0, 0] codeSF) (Exit.then K Q0) ⟨List.toArray (u0 :: u1 :: (.int .i64 s) :: u3 :: u4 :: u5 :: u6 :: u7 :: u8 :: u9 :: u10 :: u11 :: u12 :: (.pointer (some ⟨ga, 0, none⟩)) :: (.pointer (some ⟨gt, 0, none⟩)) :: (.pointer (some ⟨b, 0, none⟩)) :: u16 :: (.map (some mb)) :: u18 :: u19 :: u20 :: u21 :: u22 :: u23 :: u24 :: u25 :: u26 :: u27 :: u28 :: u29 :: u30 :: u31 :: u32 :: u33 :: u34 :: u35 :: u36 :: u37 :: u38 :: u39 :: u40 :: u41 :: u42 :: u43 :: u44 :: u45 :: u46 :: u47 :: u48 :: u49 :: u50 :: u51 :: (.slice A2 zs.length cz) :: (.int .i64 (zs.length : Int)) :: (.int .i64 ((i : Nat) : Int)) :: u55 :: u56 :: u57 :: u58 :: u59 :: u60 :: u61 :: u62 :: u63 :: u64 :: u65 :: u66 :: u67 :: u68 :: u69 :: u70 :: u71 :: u72 :: u73 :: u74 :: u75 :: u76 :: u77 :: u78 :: u79 :: u80 :: u81 :: u82 :: u83 :: u84 :: u85 :: u86 :: u87 :: u88 :: u89 :: u90 :: u91 :: u92 :: u93 :: u94 :: u95 :: u96 :: u97 :: u98 :: u99 :: u100 :: u101 :: u102 :: u103 :: u104 :: u105 :: u106 :: u107 :: u108 :: u109 :: u110 :: u111 :: u112 :: u113 :: u114 :: u115 :: u116 :: u117 :: u118 :: u119 :: u120 :: u121 :: u122 :: u123 :: u124 :: u125 :: u126 :: u127 :: u128 :: u129 :: u130 :: u131 :: u132 :: u133 :: u134 :: u135 :: u136 :: u137 :: u138 :: u139 :: u140 :: u141 :: u142 :: u143 :: u144 :: u145 :: u146 :: u147 :: u148 :: u149 :: u150 :: u151 :: u152 :: u153 :: u154 :: u155 :: u156 :: u157 :: u158 :: u159 :: u160 :: u161 :: u162 :: u163 :: u164 :: u165 :: u166 :: u167 :: u168 :: u169 :: u170 :: u171 :: u172 :: u173 :: u174 :: u175 :: u176 :: []), []⟩ w := by
  have HK := Lib.hid hK
  have HX := Lib.hid hX
  clear hK hX
  conv => arg 2; whnf
  obtain ⟨hi, hk, hmi, hq⟩ := hI
  by_cases hlt : i < zs.length
  · have i0 : (0 : Int) ≤ (i : Int) := by omega
    have i1 : (i : Int) < (zs.length : Int) := by omega
    have hzw := hk.rdz hz
    have hzl := hz.1
    have hsv := hzw.bd i
    obtain ⟨bz, oz, rfl, hbz, hcz⟩ := hzw.2.2 (by omega)
    have hc1 := hcz i hlt
    generalize zs.getD i 0 = sv at hc1 hsv
    have CR16 := Lib.hid (fun V => within_any sv 16 V hsv (by omega))
    have br := withinI_bd sv 16 (by omega)
    obtain ⟨rn, hrn⟩ := Int.eq_ofNat_of_zero_le br.1
    rw [hrn] at CR16 br
    have hr16 : rn < 16 := by omega
    have HX0 : (∀ r, (G.L r = rg G.s G.l G.l' r ∧ G.D r = rg G.s G.d G.d' r) ∧ G.C r = rg G.s G.c G.c' r) := fun r => ⟨⟨rfl, rfl⟩, rfl⟩
    have HL := (HX0 rn).1.1
    have HD := (HX0 rn).1.2
    have HC := (HX0 rn).2
    rw [hGe] at HL HD HC
    dsimp only at HL HD HC
    rw [← hGe] at HL HD HC
    have hgb := gOk_bd (RG.good hG rn)
    have hgm := hle rn hr16
    obtain ⟨gd, hgd⟩ : ∃ gd : Nat, G.D rn = (gd : Int) := ⟨(G.D rn).toNat, by omega⟩
    rw [hgd] at HD hgb hgm
    generalize G.L rn = gl at HL hgb
    generalize G.C rn = gc at HC hgb
    replace HL := Lib.hid HL
    replace HD := Lib.hid HD
    replace HC := Lib.hid HC
    have Hgd := Lib.hid hgd
    clear HX0 hgd
    have CWd := Lib.hid (fun V => within_any (sv.tdiv 16) (gd : Int) V (tdiv_bd sv 16 hsv (by omega)) (by omega))
    have bd := withinI_bd (sv.tdiv 16) (gd : Int) (by omega)
    obtain ⟨d, hdd⟩ := Int.eq_ofNat_of_zero_le bd.1
    rw [hdd] at CWd bd
    have hdg : d < gd := by omega
    have C32 := Lib.hid (fun V => within_any sv 32 V hsv (by omega))
    have b32 := withinI_bd sv 32 (by omega)
    obtain ⟨x32, hx32⟩ := Int.eq_ofNat_of_zero_le b32.1
    rw [hx32] at C32 b32
    have hx32' : x32 < 32 := by omega
    have C255 := Lib.hid (fun V => within_any sv 255 V hsv (by omega))
    have b255 := withinI_bd sv 255 (by omega)
    obtain ⟨x255, hx255⟩ := Int.eq_ofNat_of_zero_le b255.1
    rw [hx255] at C255 b255
    obtain ⟨a0, a1, a2⟩ := hk.gat hmem
    obtain ⟨t0, t1, t2⟩ := hk.gat hmt
    have hgt := (Array.getElem?_eq_some_iff.1 (hk.kx.kp _ hmt).1).1
    have Hk := Lib.hid hk
    have Hmi := Lib.hid hmi
    have Hq := Lib.hid hq
    have Hle := Lib.hid hle
    have tq : IntKind.i64.wrap (sv.tdiv 16) = sv.tdiv 16 := IntWalk.i64_in _ (tdiv_bd sv 16 hsv (by omega))
    clear HX hk hmi hq hz hzw hcz hGe hle hG hrn hdd hx32 hx255
    go_wp2_with fail
    (with_reducible refine (CR16.out _).mono ?_); rintro e w1 ⟨rfl, h1⟩
    have hw1 := h1.symm
    subst hw1
    clear h1 CR16
    go_upto_if 63 with fail
    go_cut [64] from 55 to 109 (fun _ V => KS W0 V b H M ((w.heap.size, Obj.cells #[.int .i64 gl, .int .i64 (gd : Int), .int .i64 gc] 25 (0, 0)) :: KK) [] [] ∧ Below w.heap.size w V)
    case first =>
      by_cases hs2 : (rn : Int) < s
      · have e1 := Lib.hid (HL.out.trans (if_pos hs2))
        have e2 := Lib.hid (HD.out.trans (if_pos hs2))
        have e3 := Lib.hid (HC.out.trans (if_pos hs2))
        go_wp2_with (refine wpList_store_blk rfl 25 _ _ (by rfl) w.heap.size 0 (.agg #[.int .i64 l', .int .i64 (D' : Int), .int .i64 c']) (by rfl) (by rfl) [.int .i64 l, .int .i64 (D : Int), .int .i64 c] 25 (hp_new _ _ _ rfl) [.int .i64 l', .int .i64 (D' : Int), .int .i64 c'] rfl 3 rfl (by kernel_rfl) (by show 0 + 3 ≤ 3; omega) (cells3_one _ _ _) [.int .i64 l', .int .i64 (D' : Int), .int .i64 c'] (by rfl) ?_; intro w7 h7 g7)
        go_meet
        rw [e1.out, e2.out, e3.out]
        exact ⟨Hk.out.box _ g7 h7, (below1 w _).grown g7 (by simp) (fun j e => by injection e with e; omega)⟩
      · have e1 := Lib.hid (HL.out.trans (if_neg hs2))
        have e2 := Lib.hid (HD.out.trans (if_neg hs2))
        have e3 := Lib.hid (HC.out.trans (if_neg hs2))
        go_wp2_with fail
        go_meet
        rw [e1.out, e2.out, e3.out]
        exact ⟨Hk.out.add _, below1 w _⟩
    case rest =>
      obtain ⟨hk2, hbc⟩ := hcut
      obtain ⟨g1, g2, g3⟩ := hk2.gat (List.mem_cons_self ..)
      have Mi1 := Lib.hid (Hmi.out.below hbc)
      have Hk2 := Lib.hid (Hk.out.below hbc)
      clear hk2 hbc a0 a1 a2 t0 t1 t2 Hk Hmi HL HC HD
      clear hgt
      have hMn := Hq.out.gd.n
      have hro := Bch.read_ok (N := M) (d := d) (k := 36 + rn) (by omega) (by omega) (Hq.out.gd.f d (by omega)) Hq.out.gd.dn
      rw [show ((36 + rn : Nat) : Int) = 36 + (rn : Int) by omega] at hro
      have CR := bp_read W0 wc b H M Hk2.out.bp (d : Int) (36 + (rn : Int)) ⟨by omega, by omega⟩ ⟨by omega, by omega⟩
      rw [hro.1, hro.2] at CR
      replace CR := Lib.hid CR
      have hy32 : (secAt (M.D d).now (36 + rn)).length = 32 := secAt_len (by rw [(Hq.out.gd.ok d (by omega)).now]; omega)
      have Hps := Lib.hid (show ∀ i, i < M.n → (M.D i).ps.length ≤ 2000000 from fun i hi => by rw [Hq.out.gd.ps i (by omega)]; exact Nat.zero_le _)
      have Hst := Lib.hid (fun (hn : (rn : Int) ∉ xs) (y : List UInt8) (hy : y.length = 32) (hne : y ≠ secAt (M.D d).now (36 + rn)) => Hq.out.step Hle.out hr16 hn (show d < (G.D rn).toNat by rw [Hgd.out]; omega) hy hne)
      generalize secAt (M.D d).now (36 + rn) = y at CR hy32 Hst
      clear hro
      go_wp2_with fail
      (with_reducible refine (CWd.out _).mono ?_); rintro e w2 ⟨rfl, h2⟩
      have hw2 := h2.symm
      subst hw2
      clear h2 CWd g1 g2 g3
      go_wp2_with fail
      (with_reducible refine CR.out.mono ?_); rintro e w3 ⟨v, rfl, hy, hb3⟩
      obtain ⟨gx, cx, rfl, hgx, _, _, _, _⟩ := hy.pos (by omega)
      rw [hy32] at hy
      rw [hy32]
      have Mi3 := Lib.hid (Mi1.out.below hb3)
      have K3 := Lib.hid (Hk2.out.below hb3)
      have hlk := Mi3.out.st.look (rn : Int) ⟨by omega, by omega⟩
      clear CR
      by_cases hin : (rn : Int) ∈ xs
      · rw [decide_eq_true hin] at hlk
        clear hin hy hb3 Hst hgx C32 C255 Mi1
        go_wp2_with fail
        exact HK.out _ _ _ _ _ _ _ _ _ _ _ _ _ _ _ _ _ _ _ _ _ _ _ _ _ _ _ _ _ _ _ _ _ _ _ _ _ _ _ _ _ _ _ _ _ _ _ _ _ _ _ _ _ _ _ _ _ _ _ _ _ H M xs _ ⟨by omega, K3.out, Mi3.out, Hq.out⟩ (by omega)
      · rw [decide_eq_false hin] at hlk
        have Hin := Lib.hid hin
        obtain ⟨z7, f7⟩ := hy.cell hy32 x32 hx32'
        have ex := xor_u8 (y.getD x32 0) (UInt8.ofNat (1 + x255))
        have hcu : ((UInt8.ofNat (1 + x255)).toNat : Int) = 1 + (x255 : Int) := by
          have : (UInt8.ofNat (1 + x255)).toNat = 1 + x255 := by simp; omega
          rw [this]; omega
        have hcn : UInt8.ofNat (1 + x255) ≠ 0 := fun e => by rw [e] at hcu; simp at hcu; omega
        have htb : tb (UInt8.ofNat (1 + x255)) x32 y = y.set x32 (y.getD x32 0 ^^^ UInt8.ofNat (1 + x255)) := rfl
        have hne := tb_ne hcn (show x32 < y.length by omega)
        obtain ⟨zq, hzq⟩ : ∃ z, y.getD x32 0 ^^^ UInt8.ofNat (1 + x255) = z := ⟨_, rfl⟩
        rw [hzq] at ex htb
        rw [hcu] at ex
        rw [htb] at hne
        have Hne := Lib.hid hne
        have Hzq := Lib.hid hzq
        have hb3d := hb3.drew
        have hyd := hy.below (Below.refl _ w3).drew
        clear hzq htb hcn hcu hin hne hy hb3 Mi3 K3
        generalize y.getD x32 0 = ya at z7 ex Hzq
        go_wp2_with fail
        refine wp_region_still_tail 11 (by kernel_rfl) (by kernel_rfl) ?_
        simp only [List.take_succ_cons, List.take_zero, List.drop_succ_cons, List.drop_zero]
        change wpStill _ _ w3.drew _ _ _
        have z8 : w3.drew.cell? ⟨gx, x32, none⟩ = some (.int .u8 (ya.toNat : Int)) := z7
        have f8 : w3.drew.frozen? ⟨gx, x32, none⟩ = false := f7
        generalize hwd : w3.drew = wd at z8 f8 hb3d hyd hlk ⊢
        have Hwd := Lib.hid hwd
        clear hwd
        repeat still_step
        still_call (C32.out _)
        repeat still_step
        still_call (C255.out _)
        repeat still_step
        refine wpStill_nil ?_
        change wpList _ _ _ _ _ w3.drew
        rw [Hwd.out]
        obtain ⟨hput, _⟩ := hyd.set hy32 x32 zq
        have hbs := hb3d.setCell (p := ⟨gx, x32, none⟩) hgx (.int .u8 (zq.toNat : Int))
        have k1 := Hk2.out.below hbs
        have m1 := Mi1.out.below hbs
        have hst := Hst.out Hin.out (y.set x32 zq) (by rw [List.length_set]; exact hy32) Hne.out
        rw [show ((36 + rn : Nat) : Int) = 36 + (rn : Int) by omega] at hst
        have CD := Lib.hid (ks_damage_mi k1 m1 (d : Int) (36 + (rn : Int)) (y.set x32 zq) (some ⟨gx, 0, none⟩) 32 cx (by rw [List.length_set]; exact hy32.symm) ⟨by omega, by omega⟩ ⟨by omega, by omega⟩ hput.rdS.1 Hps.out)
        have Hst2 := Lib.hid hst
        generalize y.set x32 zq = y2 at CD Hst2
        clear k1 m1 hst hput hbs hb3d hyd hlk Hst Hne Hzq Hps Mi1 Hk2 C32 C255 hgx
        go_wp2_with fail
        (with_reducible refine CD.out.mono ?_); rintro e w6 ⟨rfl, H6, k6, m6⟩
        have hst := Hst2.out
        generalize M.damage (d : Int) (36 + (rn : Int)) y2 = N6 at k6 m6 hst
        obtain ⟨W9, hrun, k9, m9⟩ := m6.put k6 (x := (rn : Int)) (by omega) Hin.out
        have K9 := Lib.hid k9
        have M9 := Lib.hid m9
        have Q9 := Lib.hid hst
        clear CD k6 m6 hst k9 m9 Hst2 z8 f8 z7 f7 ex Hwd Hq
        go_wp2_with fail
        exact HK.out _ _ _ _ _ _ _ _ _ _ _ _ _ _ _ _ _ _ _ _ _ _ _ _ _ _ _ _ _ _ _ _ _ _ _ _ _ _ _ _ _ _ _ _ _ _ _ _ _ _ _ _ _ _ _ _ _ _ _ _ _ H6 N6 _ _ ⟨by omega, K9.out, M9.out, Q9.out⟩ (by omega)
  · have i1 : ¬ (i : Int) < (zs.length : Int) := by omega
    have Hin := Lib.hid (show i = zs.length by omega)
    clear HK hk hmi hq
    go_wp2_with fail
    exact HX.out _ _ _ _ _ _ _ _ _ _ _ _ _ _ _ _ _ _ _ _ _ _ _ _ _ _ _ _ _ _ _ _ _ _ _ _ _ _ _ _ _ _ _ _ _ _ _ _ _ _ _ _ _ _ _ _ _ _ _ _ _ Hin.out
set_option maxRecDepth 100000 in
set_option maxHeartbeats 3200000 in
theorem sfA {W0 : World} {b D D' ga gt mb cz : Nat} {l c l' c' s : Int} {A2 : Option Addr} {zs : List Int} {KK : List (Nat × Obj)} {G : RG} {rs : Nat → List (List UInt8)} {H0 : BH} {M0 : Bch} {xs0 : List Int} {w : World} (u0 u1 u3 u4 u5 u6 u7 u8 u9 u10 u11 u12 u16 u18 u19 u20 u21 u22 u23 u24 u25 u26 u27 u28 u29 u30 u31 u32 u33 u34 u35 u36 u37 u38 u39 u40 u41 u42 u43 u44 u45 u46 u47 u48 u49 u50 u51 u55 u56 u57 u58 u59 u60 u61 u62 u63 u64 u65 u66 u67 u68 u69 u70 u71 u72 u73 u74 u75 u76 u77 u78 u79 u80 u81 u82 u83 u84 u85 u86 u87 u88 u89 u90 u91 u92 u93 u94 u95 u96 u97 u98 u99 u100 u101 u102 u103 u104 u105 u106 u107 u108 u109 u110 u111 u112 u113 u114 u115 u116 u117 u118 u119 u120 u121 u122 u123 u124 u125 u126 u127 u128 u129 u130 u131 u132 u133 u134 u135 u136 u137 u138 u139 u140 u141 u142 u143 u144 u145 u146 u147 u148 u149 u150 u151 u152 u153 u154 u155 u156 u157 u158 u159 u160 u161 u162 u163 u164 u165 u166 u167 u168 u169 u170 u171 u172 u173 u174 u175 u176 : Value) (Q : Exit → Act → World → Prop) (hmem : (ga, Obj.cells #[.int .i64 l, .int .i64 (D : Int), .int .i64 c] 25 (0, 0)) ∈ KK) (hmt : (gt, Obj.cells #[.int .i64 l', .int .i64 (D' : Int), .int .i64 c'] 25 (0, 0)) ∈ KK) (hD' : D' ≤ 8) (hs : 0 ≤ s ∧ s ≤ 16) (hGe : G = ⟨l, (D : Int), c, l', (D' : Int), c', s⟩) (hG : G.ok = true) (hle : ∀ t, t < 16 → G.D t ≤ (D' : Int)) (hz : RdZ W0 W0.heap.size A2 zs) (hI : (0 ≤ zs.length ∧ KS W0 w b H0 M0 KK [] [] ∧ MI w b H0 M0.n KK W0 mb xs0 ∧ Sq M0 D' G rs xs0))
    (hX : ∀ (v19 v20 v21 v22 v23 v24 v55 v56 v57 v58 v59 v60 v61 v62 v63 v64 v65 v66 v67 v68 v69 v70 v71 v72 v73 v74 v75 v76 v77 v78 v79 v80 v81 v82 v83 v84 v85 v86 v87 v88 v89 v90 v91 v92 v93 v94 v95 v96 v97 v98 v99 v100 v101 v102 v103 v104 v105 v106 v107 v108 v109 : Value) (i : Nat) (H : BH) (M : Bch) (xs : List Int) (V : World), (i ≤ zs.length ∧ KS W0 V b H M KK [] [] ∧ MI V b H M.n KK W0 mb xs ∧ Sq M D' G rs xs) → (i = zs.length) → Q (.exit 0) ⟨List.toArray (u0 :: u1 :: (.int .i64 s) :: u3 :: u4 :: u5 :: u6 :: u7 :: u8 :: u9 :: u10 :: u11 :: u12 :: (.pointer (some ⟨ga, 0, none⟩)) :: (.pointer (some ⟨gt, 0, none⟩)) :: (.pointer (some ⟨b, 0, none⟩)) :: u16 :: (.map (some mb)) :: u18 :: v19 :: v20 :: v21 :: v22 :: v23 :: v24 :: u25 :: u26 :: u27 :: u28 :: u29 :: u30 :: u31 :: u32 :: u33 :: u34 :: u35 :: u36 :: u37 :: u38 :: u39 :: u40 :: u41 :: u42 :: u43 :: u44 :: u45 :: u46 :: u47 :: u48 :: u49 :: u50 :: u51 :: (.slice A2 zs.length cz) :: (.int .i64 (zs.length : Int)) :: (.int .i64 ((i : Nat) : Int)) :: v55 :: v56 :: v57 :: v58 :: v59 :: v60 :: v61 :: v62 :: v63 :: v64 :: v65 :: v66 :: v67 :: v68 :: v69 :: v70 :: v71 :: v72 :: v73 :: v74 :: v75 :: v76 :: v77 :: v78 :: v79 :: v80 :: v81 :: v82 :: v83 :: v84 :: v85 :: v86 :: v87 :: v88 :: v89 :: v90 :: v91 :: v92 :: v93 :: v94 :: v95 :: v96 :: v97 :: v98 :: v99 :: v100 :: v101 :: v102 :: v103 :: v104 :: v105 :: v106 :: v107 :: v108 :: v109 :: u110 :: u111 :: u112 :: u113 :: u114 :: u115 :: u116 :: u117 :: u118 :: u119 :: u120 :: u121 :: u122 :: u123 :: u124 :: u125 :: u126 :: u127 :: u128 :: u129 :: u130 :: u131 :: u132 :: u133 :: u134 :: u135 :: u136 :: u137 :: u138 :: u139 :: u140 :: u141 :: u142 :: u143 :: u144 :: u145 :: u146 :: u147 :: u148 :: u149 :: u150 :: u151 :: u152 :: u153 :: u154 :: u155 :: u156 :: u157 :: u158 :: u159 :: u160 :: u161 :: u162 :: u163 :: u164 :: u165 :: u166 :: u167 :: u168 :: u169 :: u170 :: u171 :: u172 :: u173 :: u174 :: u175 :: u176 :: []), []⟩ V) :
    Code.wp Try.prog (.loop (sub [1, 1, 1, 1, 1, 1, 1, 0, 1, 0, 0] codeSF)) Q ⟨List.toArray (u0 :: u1 :: (.int .i64 s) :: u3 :: u4 :: u5 :: u6 :: u7 :: u8 :: u9 :: u10 :: u11 :: u12 :: (.pointer (some ⟨ga, 0, none⟩)) :: (.pointer (some ⟨gt, 0, none⟩)) :: (.pointer (some ⟨b, 0, none⟩)) :: u16 :: (.map (some mb)) :: u18 :: u19 :: u20 :: u21 :: u22 :: u23 :: u24 :: u25 :: u26 :: u27 :: u28 :: u29 :: u30 :: u31 :: u32 :: u33 :: u34 :: u35 :: u36 :: u37 :: u38 :: u39 :: u40 :: u41 :: u42 :: u43 :: u44 :: u45 :: u46 :: u47 :: u48 :: u49 :: u50 :: u51 :: (.slice A2 zs.length cz) :: (.int .i64 (zs.length : Int)) :: (.int .i64 ((0 : Nat) : Int)) :: u55 :: u56 :: u57 :: u58 :: u59 :: u60 :: u61 :: u62 :: u63 :: u64 :: u65 :: u66 :: u67 :: u68 :: u69 :: u70 :: u71 :: u72 :: u73 :: u74 :: u75 :: u76 :: u77 :: u78 :: u79 :: u80 :: u81 :: u82 :: u83 :: u84 :: u85 :: u86 :: u87 :: u88 :: u89 :: u90 :: u91 :: u92 :: u93 :: u94 :: u95 :: u96 :: u97 :: u98 :: u99 :: u100 :: u101 :: u102 :: u103 :: u104 :: u105 :: u106 :: u107 :: u108 :: u109 :: u110 :: u111 :: u112 :: u113 :: u114 :: u115 :: u116 :: u117 :: u118 :: u119 :: u120 :: u121 :: u122 :: u123 :: u124 :: u125 :: u126 :: u127 :: u128 :: u129 :: u130 :: u131 :: u132 :: u133 :: u134 :: u135 :: u136 :: u137 :: u138 :: u139 :: u140 :: u141 :: u142 :: u143 :: u144 :: u145 :: u146 :: u147 :: u148 :: u149 :: u150 :: u151 :: u152 :: u153 :: u154 :: u155 :: u156 :: u157 :: u158 :: u159 :: u160 :: u161 :: u162 :: u163 :: u164 :: u165 :: u166 :: u167 :: u168 :: u169 :: u170 :: u171 :: u172 :: u173 :: u174 :: u175 :: u176 :: []), []⟩ w := by
  refine wp_loop_ghost (fun gk a V => ∀ C : Prop, (∀ (u19 u20 u21 u22 u23 u24 u55 u56 u57 u58 u59 u60 u61 u62 u63 u64 u65 u66 u67 u68 u69 u70 u71 u72 u73 u74 u75 u76 u77 u78 u79 u80 u81 u82 u83 u84 u85 u86 u87 u88 u89 u90 u91 u92 u93 u94 u95 u96 u97 u98 u99 u100 u101 u102 u103 u104 u105 u106 u107 u108 u109 : Value) (i : Nat) (H : BH) (M : Bch) (xs : List Int), gk = zs.length - i → (i ≤ zs.length ∧ KS W0 V b H M KK [] [] ∧ MI V b H M.n KK W0 mb xs ∧ Sq M D' G rs xs) → a = ⟨List.toArray (u0 :: u1 :: (.int .i64 s) :: u3 :: u4 :: u5 :: u6 :: u7 :: u8 :: u9 :: u10 :: u11 :: u12 :: (.pointer (some ⟨ga, 0, none⟩)) :: (.pointer (some ⟨gt, 0, none⟩)) :: (.pointer (some ⟨b, 0, none⟩)) :: u16 :: (.map (some mb)) :: u18 :: u19 :: u20 :: u21 :: u22 :: u23 :: u24 :: u25 :: u26 :: u27 :: u28 :: u29 :: u30 :: u31 :: u32 :: u33 :: u34 :: u35 :: u36 :: u37 :: u38 :: u39 :: u40 :: u41 :: u42 :: u43 :: u44 :: u45 :: u46 :: u47 :: u48 :: u49 :: u50 :: u51 :: (.slice A2 zs.length cz) :: (.int .i64 (zs.length : Int)) :: (.int .i64 ((i : Nat) : Int)) :: u55 :: u56 :: u57 :: u58 :: u59 :: u60 :: u61 :: u62 :: u63 :: u64 :: u65 :: u66 :: u67 :: u68 :: u69 :: u70 :: u71 :: u72 :: u73 :: u74 :: u75 :: u76 :: u77 :: u78 :: u79 :: u80 :: u81 :: u82 :: u83 :: u84 :: u85 :: u86 :: u87 :: u88 :: u89 :: u90 :: u91 :: u92 :: u93 :: u94 :: u95 :: u96 :: u97 :: u98 :: u99 :: u100 :: u101 :: u102 :: u103 :: u104 :: u105 :: u106 :: u107 :: u108 :: u109 :: u110 :: u111 :: u112 :: u113 :: u114 :: u115 :: u116 :: u117 :: u118 :: u119 :: u120 :: u121 :: u122 :: u123 :: u124 :: u125 :: u126 :: u127 :: u128 :: u129 :: u130 :: u131 :: u132 :: u133 :: u134 :: u135 :: u136 :: u137 :: u138 :: u139 :: u140 :: u141 :: u142 :: u143 :: u144 :: u145 :: u146 :: u147 :: u148 :: u149 :: u150 :: u151 :: u152 :: u153 :: u154 :: u155 :: u156 :: u157 :: u158 :: u159 :: u160 :: u161 :: u162 :: u163 :: u164 :: u165 :: u166 :: u167 :: u168 :: u169 :: u170 :: u171 :: u172 :: u173 :: u174 :: u175 :: u176 :: []), []⟩ → C) → C) (zs.length - 0) ?_ ?_
  · intro C hC
    exact hC _ _ _ _ _ _ _ _ _ _ _ _ _ _ _ _ _ _ _ _ _ _ _ _ _ _ _ _ _ _ _ _ _ _ _ _ _ _ _ _ _ _ _ _ _ _ _ _ _ _ _ _ _ _ _ _ _ _ _ _ _ (0) (H0) (M0) (xs0) rfl hI rfl
  · intro gk a V hI'
    refine hI' _ ?_
    intro u19 u20 u21 u22 u23 u24 u55 u56 u57 u58 u59 u60 u61 u62 u63 u64 u65 u66 u67 u68 u69 u70 u71 u72 u73 u74 u75 u76 u77 u78 u79 u80 u81 u82 u83 u84 u85 u86 u87 u88 u89 u90 u91 u92 u93 u94 u95 u96 u97 u98 u99 u100 u101 u102 u103 u104 u105 u106 u107 u108 u109 i H M xs hk hinv ha
    subst ha
    subst hk
    refine sfAb _ _ _ _ _ _ _ _ _ _ _ _ _ _ _ _ _ _ _ _ _ _ _ _ _ _ _ _ _ _ _ _ _ _ _ _ _ _ _ _ _ _ _ _ _ _ _ _ _ _ _ _ _ _ _ _ _ _ _ _ _ _ _ _ _ _ _ _ _ _ _ _ _ _ _ _ _ _ _ _ _ _ _ _ _ _ _ _ _ _ _ _ _ _ _ _ _ _ _ _ _ _ _ _ _ _ _ _ _ _ _ _ _ _ _ _ _ _ _ _ _ _ _ _ _ _ _ _ _ _ _ _ _ _ _ _ _ _ _ _ _ _ _ _ _ _ _ _ _ _ _ _ _ _ _ _ _ _ _ _ _ _ _ _ _ _ _ _ _ _ _ hmem hmt hD' hs hGe hG hle hz hinv (fun v19 v20 v21 v22 v23 v24 v55 v56 v57 v58 v59 v60 v61 v62 v63 v64 v65 v66 v67 v68 v69 v70 v71 v72 v73 v74 v75 v76 v77 v78 v79 v80 v81 v82 v83 v84 v85 v86 v87 v88 v89 v90 v91 v92 v93 v94 v95 v96 v97 v98 v99 v100 v101 v102 v103 v104 v105 v106 v107 v108 v109 H2 M2 xs2 V2 h2 hm => ?_) (fun v19 v20 v21 v22 v23 v24 v55 v56 v57 v58 v59 v60 v61 v62 v63 v64 v65 v66 v67 v68 v69 v70 v71 v72 v73 v74 v75 v76 v77 v78 v79 v80 v81 v82 v83 v84 v85 v86 v87 v88 v89 v90 v91 v92 v93 v94 v95 v96 v97 v98 v99 v100 v101 v102 v103 v104 v105 v106 v107 v108 v109 hx => hX v19 v20 v21 v22 v23 v24 v55 v56 v57 v58 v59 v60 v61 v62 v63 v64 v65 v66 v67 v68 v69 v70 v71 v72 v73 v74 v75 v76 v77 v78 v79 v80 v81 v82 v83 v84 v85 v86 v87 v88 v89 v90 v91 v92 v93 v94 v95 v96 v97 v98 v99 v100 v101 v102 v103 v104 v105 v106 v107 v108 v109 i H M xs V hinv hx)
    refine ⟨_, hm, fun C hC => ?_⟩
    exact hC v19 v20 v21 v22 v23 v24 v55 v56 v57 v58 v59 v60 v61 v62 v63 v64 v65 v66 v67 v68 v69 v70 v71 v72 v73 v74 v75 v76 v77 v78 v79 v80 v81 v82 v83 v84 v85 v86 v87 v88 v89 v90 v91 v92 v93 v94 v95 v96 v97 v98 v99 v100 v101 v102 v103 v104 v105 v106 v107 v108 v109 ((i + 1)) (H2) (M2) (xs2) rfl h2 rfl
def wF (xs : List Int) (gone : Int) (G : RG) (r : Nat) : Bool := decide ((r : Int) ∈ xs) && (decide (gone < 0) || decide (G.D r ≤ gone))
set_option maxRecDepth 100000 in
set_option maxHeartbeats 3200000 in
theorem sfBb {W0 : World} {b D D' ga gt mb : Nat} {l c l' c' s gone : Int} {om : Obj} {xs : List Int} {KK : List (Nat × Obj)} {G : RG} {H : BH} {M : Bch} {xv : Value} {r : Nat} {w : World} (u0 u1 u3 u4 u5 u6 u7 u8 u9 u10 u11 u12 u15 u16 u18 u19 u20 u21 u22 u23 u24 u28 u29 u30 u31 u32 u33 u34 u35 u36 u37 u38 u39 u40 u41 u42 u43 u44 u45 u46 u47 u48 u49 u50 u51 u52 u53 u54 u55 u56 u57 u58 u59 u60 u61 u62 u63 u64 u65 u66 u67 u68 u69 u70 u71 u72 u73 u74 u75 u76 u77 u78 u79 u80 u81 u82 u83 u84 u85 u86 u87 u88 u89 u90 u91 u92 u93 u94 u95 u96 u97 u98 u99 u100 u101 u102 u103 u104 u105 u106 u107 u108 u109 u110 u111 u112 u113 u114 u115 u116 u117 u118 u119 u120 u121 u122 u123 u124 u125 u126 u127 u128 u129 u130 u131 u132 u133 u134 u135 u136 u137 u138 u139 u140 u141 u142 u143 u144 u145 u146 u147 u148 u149 u150 u151 u152 u153 u154 u155 u156 u157 u158 u159 u160 u161 u162 u163 u164 u165 u166 u167 u168 u169 u170 u171 u172 u173 u174 u175 u176 : Value) (K : Act → World → Prop) (Q0 : Exit → Act → World → Prop) (hmem : (ga, Obj.cells #[.int .i64 l, .int .i64 (D : Int), .int .i64 c] 25 (0, 0)) ∈ KK) (hmt : (gt, Obj.cells #[.int .i64 l', .int .i64 (D' : Int), .int .i64 c'] 25 (0, 0)) ∈ KK) (hmp : (mb, om) ∈ KK) (hset : ∀ V : World, V.heap[mb]? = some om → SetI V mb xs) (hD' : D' ≤ 8) (hs : 0 ≤ s ∧ s ≤ 16) (hgo : -1 ≤ gone ∧ gone ≤ 8) (hGe : G = ⟨l, (D : Int), c, l', (D' : Int), c', s⟩) (hG : G.ok = true) (hle : ∀ t, t < 16 → G.D t ≤ (D' : Int)) (hI : (r ≤ 16 ∧ KS W0 w b H M KK [] [] ∧ WI w b H M.n KK W0 xv (fltN (wF xs gone G) r)))
    (hK : ∀ (v28 v132 v133 v134 v135 v136 v137 v138 v139 v140 v141 v142 v143 v144 v145 v146 v147 v148 v149 v150 v151 v152 v153 v154 v155 v156 v157 : Value) (xv2 : Value) (V : World), ((r + 1) ≤ 16 ∧ KS W0 V b H M KK [] [] ∧ WI V b H M.n KK W0 xv2 (fltN (wF xs gone G) (r + 1))) → 16 - (r + 1) < 16 - r → K ⟨List.toArray (u0 :: u1 :: (.int .i64 s) :: u3 :: u4 :: u5 :: u6 :: u7 :: u8 :: u9 :: u10 :: u11 :: u12 :: (.pointer (some ⟨ga, 0, none⟩)) :: (.pointer (some ⟨gt, 0, none⟩)) :: u15 :: u16 :: (.map (some mb)) :: u18 :: u19 :: u20 :: u21 :: u22 :: u23 :: u24 :: (.int .i64 gone) :: xv2 :: (.int .i64 (((r + 1) : Nat) : Int)) :: v28 :: u29 :: u30 :: u31 :: u32 :: u33 :: u34 :: u35 :: u36 :: u37 :: u38 :: u39 :: u40 :: u41 :: u42 :: u43 :: u44 :: u45 :: u46 :: u47 :: u48 :: u49 :: u50 :: u51 :: u52 :: u53 :: u54 :: u55 :: u56 :: u57 :: u58 :: u59 :: u60 :: u61 :: u62 :: u63 :: u64 :: u65 :: u66 :: u67 :: u68 :: u69 :: u70 :: u71 :: u72 :: u73 :: u74 :: u75 :: u76 :: u77 :: u78 :: u79 :: u80 :: u81 :: u82 :: u83 :: u84 :: u85 :: u86 :: u87 :: u88 :: u89 :: u90 :: u91 :: u92 :: u93 :: u94 :: u95 :: u96 :: u97 :: u98 :: u99 :: u100 :: u101 :: u102 :: u103 :: u104 :: u105 :: u106 :: u107 :: u108 :: u109 :: u110 :: u111 :: u112 :: u113 :: u114 :: u115 :: u116 :: u117 :: u118 :: u119 :: u120 :: u121 :: u122 :: u123 :: u124 :: u125 :: u126 :: u127 :: u128 :: u129 :: u130 :: u131 :: v132 :: v133 :: v134 :: v135 :: v136 :: v137 :: v138 :: v139 :: v140 :: v141 :: v142 :: v143 :: v144 :: v145 :: v146 :: v147 :: v148 :: v149 :: v150 :: v151 :: v152 :: v153 :: v154 :: v155 :: v156 :: v157 :: u158 :: u159 :: u160 :: u161 :: u162 :: u163 :: u164 :: u165 :: u166 :: u167 :: u168 :: u169 :: u170 :: u171 :: u172 :: u173 :: u174 :: u175 :: u176 :: []), []⟩ V)
    (hX : ∀ (v28 v132 v133 v134 v135 v136 v137 v138 v139 v140 v141 v142 v143 v144 v145 v146 v147 v148 v149 v150 v151 v152 v153 v154 v155 v156 v157 : Value), (r = 16) → Q0 (.exit 3) ⟨List.toArray (u0 :: u1 :: (.int .i64 s) :: u3 :: u4 :: u5 :: u6 :: u7 :: u8 :: u9 :: u10 :: u11 :: u12 :: (.pointer (some ⟨ga, 0, none⟩)) :: (.pointer (some ⟨gt, 0, none⟩)) :: u15 :: u16 :: (.map (some mb)) :: u18 :: u19 :: u20 :: u21 :: u22 :: u23 :: u24 :: (.int .i64 gone) :: xv :: (.int .i64 ((r : Nat) : Int)) :: v28 :: u29 :: u30 :: u31 :: u32 :: u33 :: u34 :: u35 :: u36 :: u37 :: u38 :: u39 :: u40 :: u41 :: u42 :: u43 :: u44 :: u45 :: u46 :: u47 :: u48 :: u49 :: u50 :: u51 :: u52 :: u53 :: u54 :: u55 :: u56 :: u57 :: u58 :: u59 :: u60 :: u61 :: u62 :: u63 :: u64 :: u65 :: u66 :: u67 :: u68 :: u69 :: u70 :: u71 :: u72 :: u73 :: u74 :: u75 :: u76 :: u77 :: u78 :: u79 :: u80 :: u81 :: u82 :: u83 :: u84 :: u85 :: u86 :: u87 :: u88 :: u89 :: u90 :: u91 :: u92 :: u93 :: u94 :: u95 :: u96 :: u97 :: u98 :: u99 :: u100 :: u101 :: u102 :: u103 :: u104 :: u105 :: u106 :: u107 :: u108 :: u109 :: u110 :: u111 :: u112 :: u113 :: u114 :: u115 :: u116 :: u117 :: u118 :: u119 :: u120 :: u121 :: u122 :: u123 :: u124 :: u125 :: u126 :: u127 :: u128 :: u129 :: u130 :: u131 :: v132 :: v133 :: v134 :: v135 :: v136 :: v137 :: v138 :: v139 :: v140 :: v141 :: v142 :: v143 :: v144 :: v145 :: v146 :: v147 :: v148 :: v149 :: v150 :: v151 :: v152 :: v153 :: v154 :: v155 :: v156 :: v157 :: u158 :: u159 :: u160 :: u161 :: u162 :: u163 :: u164 :: u165 :: u166 :: u167 :: u168 :: u169 :: u170 :: u171 :: u172 :: u173 :: u174 :: u175 :: u176 :: []), []⟩ w) :
    Code.wp Try.prog (sub [1, 1, 1, 1, 1, 1, 1, 1, 1, 1, 1, 0, 1, 0, 0] codeSF) (Exit.then K Q0) ⟨List.toArray (u0 :: u1 :: (.int .i64 s) :: u3 :: u4 :: u5 :: u6 :: u7 :: u8 :: u9 :: u10 :: u11 :: u12 :: (.pointer (some ⟨ga, 0, none⟩)) :: (.pointer (some ⟨gt, 0, none⟩)) :: u15 :: u16 :: (.map (some mb)) :: u18 :: u19 :: u20 :: u21 :: u22 :: u23 :: u24 :: (.int .i64 gone) :: xv :: (.int .i64 ((r : Nat) : Int)) :: u28 :: u29 :: u30 :: u31 :: u32 :: u33 :: u34 :: u35 :: u36 :: u37 :: u38 :: u39 :: u40 :: u41 :: u42 :: u43 :: u44 :: u45 :: u46 :: u47 :: u48 :: u49 :: u50 :: u51 :: u52 :: u53 :: u54 :: u55 :: u56 :: u57 :: u58 :: u59 :: u60 :: u61 :: u62 :: u63 :: u64 :: u65 :: u66 :: u67 :: u68 :: u69 :: u70 :: u71 :: u72 :: u73 :: u74 :: u75 :: u76 :: u77 :: u78 :: u79 :: u80 :: u81 :: u82 :: u83 :: u84 :: u85 :: u86 :: u87 :: u88 :: u89 :: u90 :: u91 :: u92 :: u93 :: u94 :: u95 :: u96 :: u97 :: u98 :: u99 :: u100 :: u101 :: u102 :: u103 :: u104 :: u105 :: u106 :: u107 :: u108 :: u109 :: u110 :: u111 :: u112 :: u113 :: u114 :: u115 :: u116 :: u117 :: u118 :: u119 :: u120 :: u121 :: u122 :: u123 :: u124 :: u125 :: u126 :: u127 :: u128 :: u129 :: u130 :: u131 :: u132 :: u133 :: u134 :: u135 :: u136 :: u137 :: u138 :: u139 :: u140 :: u141 :: u142 :: u143 :: u144 :: u145 :: u146 :: u147 :: u148 :: u149 :: u150 :: u151 :: u152 :: u153 :: u154 :: u155 :: u156 :: u157 :: u158 :: u159 :: u160 :: u161 :: u162 :: u163 :: u164 :: u165 :: u166 :: u167 :: u168 :: u169 :: u170 :: u171 :: u172 :: u173 :: u174 :: u175 :: u176 :: []), []⟩ w := by
  have HK := Lib.hid hK
  have HX := Lib.hid hX
  clear hK hX
  conv => arg 2; whnf
  obtain ⟨hr, hk, hw⟩ := hI
  by_cases hlt : r < 16
  · have i0 : (0 : Int) ≤ (r : Int) := by omega
    have i1 : (r : Int) < 16 := by omega
    have Hfy := Lib.hid (fun h => fltN_yes (P := wF xs gone G) (k := r) h)
    have Hfn := Lib.hid (fun h => fltN_no (P := wF xs gone G) (k := r) h)
    have hwl := fltN_len (wF xs gone G) r
    have HW : Hid (wF xs gone G r = (decide ((r : Int) ∈ xs) && (decide (gone < 0) || decide (G.D r ≤ gone)))) := rfl
    generalize wF xs gone G r = wp at Hfy Hfn HW
    generalize fltN (wF xs gone G) r = ks at hw Hfy Hfn hwl
    have HX0 : (∀ r, (G.L r = rg G.s G.l G.l' r ∧ G.D r = rg G.s G.d G.d' r) ∧ G.C r = rg G.s G.c G.c' r) := fun r => ⟨⟨rfl, rfl⟩, rfl⟩
    have HL := (HX0 r).1.1
    have HD := (HX0 r).1.2
    have HC := (HX0 r).2
    rw [hGe] at HL HD HC
    dsimp only at HL HD HC
    rw [← hGe] at HL HD HC
    have hgb := gOk_bd (RG.good hG r)
    have hgm := hle r hlt
    obtain ⟨gd, hgd⟩ : ∃ gd : Nat, G.D r = (gd : Int) := ⟨(G.D r).toNat, by omega⟩
    rw [hgd] at HD hgb hgm
    generalize G.L r = gl at HL hgb
    generalize G.C r = gc at HC hgb
    replace HL := Lib.hid HL
    replace HD := Lib.hid HD
    replace HC := Lib.hid HC
    have Hgd := Lib.hid hgd
    clear HX0 hgd
    obtain ⟨a0, a1, a2⟩ := hk.gat hmem
    obtain ⟨t0, t1, t2⟩ := hk.gat hmt
    have hgt := (Array.getElem?_eq_some_iff.1 (hk.kx.kp _ hmt).1).1
    have Hk := Lib.hid hk
    have Hw := Lib.hid hw
    clear HX hk hw hGe hle hG
    go_upto_if 139 with fail
    go_cut [140] from 132 to 157 (fun _ V => KS W0 V b H M ((w.heap.size, Obj.cells #[.int .i64 gl, .int .i64 (gd : Int), .int .i64 gc] 25 (0, 0)) :: KK) [] [] ∧ Below w.heap.size w V)
    case first =>
      by_cases hs2 : (r : Int) < s
      · have e1 := Lib.hid (HL.out.trans (if_pos hs2))
        have e2 := Lib.hid (HD.out.trans (if_pos hs2))
        have e3 := Lib.hid (HC.out.trans (if_pos hs2))
        go_wp2_with (refine wpList_store_blk rfl 25 _ _ (by rfl) w.heap.size 0 (.agg #[.int .i64 l', .int .i64 (D' : Int), .int .i64 c']) (by rfl) (by rfl) [.int .i64 l, .int .i64 (D : Int), .int .i64 c] 25 (hp_new _ _ _ rfl) [.int .i64 l', .int .i64 (D' : Int), .int .i64 c'] rfl 3 rfl (by kernel_rfl) (by show 0 + 3 ≤ 3; omega) (cells3_one _ _ _) [.int .i64 l', .int .i64 (D' : Int), .int .i64 c'] (by rfl) ?_; intro w7 h7 g7)
        go_meet
        rw [e1.out, e2.out, e3.out]
        exact ⟨Hk.out.box _ g7 h7, (below1 w _).grown g7 (by simp) (fun j e => by injection e with e; omega)⟩
      · have e1 := Lib.hid (HL.out.trans (if_neg hs2))
        have e2 := Lib.hid (HD.out.trans (if_neg hs2))
        have e3 := Lib.hid (HC.out.trans (if_neg hs2))
        go_wp2_with fail
        go_meet
        rw [e1.out, e2.out, e3.out]
        exact ⟨Hk.out.add _, below1 w _⟩
    case rest =>
      obtain ⟨hk2, hbc⟩ := hcut
      obtain ⟨g1, g2, g3⟩ := hk2.gat (List.mem_cons_self ..)
      have W2 := Lib.hid (Hw.out.below hbc)
      have K2 := Lib.hid (Hk.out.below hbc)
      have hlk := (hset wc (K2.out.kx.kp _ hmp).1).look (r : Int) ⟨by omega, by omega⟩
      have hW2 := K2.out.bp.bel.size
      rw [Hgd.out] at HW
      clear hk2 hbc a0 a1 a2 t0 t1 t2 Hk Hw HL HC HD hgt hset Hgd
      by_cases hin : (r : Int) ∈ xs
      · rw [decide_eq_true hin] at hlk HW
        clear hin
        by_cases h1 : gone < 0
        · have hwp : wp = true := by rw [HW.out, decide_eq_true h1]; rfl
          clear HW
          have Hf := Lib.hid (Hfy.out hwp)
          clear Hfy Hfn hwp
          go_wp2_with (at_builtin; refine wpList_append_V rfl _ _ _ rfl W0.heap.size 3 (.int .i64 0) 8 Try.underlying22 info_int rfl _ ks.length (ks.map iv) rfl (World.ownsRow.kept W2.out.ow (grown_none (below1 wc _)) (Classical.em _)) (wc.heap.size + 1) (some ⟨wc.heap.size, 0, none⟩) 1 1 [.int .i64 (r : Int)] rfl rfl (fun _ => ⟨wc.heap.size, 0, rfl, by omega, fun j hj => by obtain rfl : j = 0 := (by simp at hj; omega); exact cell_of_row _ _ _ _ _ _ (hp_new _ _ _ rfl)⟩) (fun u hu => by simp at hu; subst hu; rfl) (by unfold maxLen; omega) (by omega) (by simp; omega) ?_; intro v9 w9 hown9 hg9 hat9)
          obtain ⟨k9, i9⟩ := W2.out.push K2.out hown9 hg9 hat9
          have K9 := Lib.hid k9
          have I9 := Lib.hid (show WI w9 b H M.n KK W0 v9 (fltN (wF xs gone G) (r + 1)) by rw [Hf.out]; exact i9)
          clear hown9 hg9 hat9 k9 i9 K2 W2
          go_wp2_with fail
          exact HK.out _ _ _ _ _ _ _ _ _ _ _ _ _ _ _ _ _ _ _ _ _ _ _ _ _ _ _ v9 _ ⟨by omega, K9.out, I9.out⟩ (by omega)
        · by_cases h2 : (gd : Int) ≤ gone
          · have hwp : wp = true := by rw [HW.out, decide_eq_false h1, decide_eq_true h2]; rfl
            clear HW
            have Hf := Lib.hid (Hfy.out hwp)
            clear Hfy Hfn hwp
            go_wp2_with (at_builtin; refine wpList_append_V rfl _ _ _ rfl W0.heap.size 3 (.int .i64 0) 8 Try.underlying22 info_int rfl _ ks.length (ks.map iv) rfl (World.ownsRow.kept W2.out.ow (grown_none (below1 wc _)) (Classical.em _)) (wc.heap.size + 1) (some ⟨wc.heap.size, 0, none⟩) 1 1 [.int .i64 (r : Int)] rfl rfl (fun _ => ⟨wc.heap.size, 0, rfl, by omega, fun j hj => by obtain rfl : j = 0 := (by simp at hj; omega); exact cell_of_row _ _ _ _ _ _ (hp_new _ _ _ rfl)⟩) (fun u hu => by simp at hu; subst hu; rfl) (by unfold maxLen; omega) (by omega) (by simp; omega) ?_; intro v9 w9 hown9 hg9 hat9)
            obtain ⟨k9, i9⟩ := W2.out.push K2.out hown9 hg9 hat9
            have K9 := Lib.hid k9
            have I9 := Lib.hid (show WI w9 b H M.n KK W0 v9 (fltN (wF xs gone G) (r + 1)) by rw [Hf.out]; exact i9)
            clear hown9 hg9 hat9 k9 i9 K2 W2
            go_wp2_with fail
            exact HK.out _ _ _ _ _ _ _ _ _ _ _ _ _ _ _ _ _ _ _ _ _ _ _ _ _ _ _ v9 _ ⟨by omega, K9.out, I9.out⟩ (by omega)
          · have hwp : wp = false := by rw [HW.out, decide_eq_false h1, decide_eq_false h2]; rfl
            clear HW
            have Hf := Lib.hid (Hfn.out hwp)
            clear Hfy Hfn hwp
            have I9 := Lib.hid (show WI wc b H M.n KK W0 xv (fltN (wF xs gone G) (r + 1)) by rw [Hf.out]; exact W2.out)
            clear W2
            go_wp2_with fail
            exact HK.out _ _ _ _ _ _ _ _ _ _ _ _ _ _ _ _ _ _ _ _ _ _ _ _ _ _ _ _ _ ⟨by omega, K2.out, I9.out⟩ (by omega)
      · rw [decide_eq_false hin] at hlk HW
        have hwp : wp = false := by rw [HW.out]; rfl
        clear hin HW
        have Hf := Lib.hid (Hfn.out hwp)
        clear Hfy Hfn hwp
        have I9 := Lib.hid (show WI wc b H M.n KK W0 xv (fltN (wF xs gone G) (r + 1)) by rw [Hf.out]; exact W2.out)
        clear W2
        go_wp2_with fail
        exact HK.out _ _ _ _ _ _ _ _ _ _ _ _ _ _ _ _ _ _ _ _ _ _ _ _ _ _ _ _ _ ⟨by omega, K2.out, I9.out⟩ (by omega)
  · have i1 : ¬ (r : Int) < 16 := by omega
    have Hin := Lib.hid (show r = 16 by omega)
    clear HK hk hw
    go_wp2_with fail
    exact HX.out _ _ _ _ _ _ _ _ _ _ _ _ _ _ _ _ _ _ _ _ _ _ _ _ _ _ _ Hin.out
set_option maxRecDepth 100000 in
set_option maxHeartbeats 3200000 in
theorem sfB {W0 : World} {b D D' ga gt mb : Nat} {l c l' c' s gone : Int} {om : Obj} {xs : List Int} {KK : List (Nat × Obj)} {G : RG} {H : BH} {M : Bch}  {w : World} (u0 u1 u3 u4 u5 u6 u7 u8 u9 u10 u11 u12 u15 u16 u18 u19 u20 u21 u22 u23 u24 u28 u29 u30 u31 u32 u33 u34 u35 u36 u37 u38 u39 u40 u41 u42 u43 u44 u45 u46 u47 u48 u49 u50 u51 u52 u53 u54 u55 u56 u57 u58 u59 u60 u61 u62 u63 u64 u65 u66 u67 u68 u69 u70 u71 u72 u73 u74 u75 u76 u77 u78 u79 u80 u81 u82 u83 u84 u85 u86 u87 u88 u89 u90 u91 u92 u93 u94 u95 u96 u97 u98 u99 u100 u101 u102 u103 u104 u105 u106 u107 u108 u109 u110 u111 u112 u113 u114 u115 u116 u117 u118 u119 u120 u121 u122 u123 u124 u125 u126 u127 u128 u129 u130 u131 u132 u133 u134 u135 u136 u137 u138 u139 u140 u141 u142 u143 u144 u145 u146 u147 u148 u149 u150 u151 u152 u153 u154 u155 u156 u157 u158 u159 u160 u161 u162 u163 u164 u165 u166 u167 u168 u169 u170 u171 u172 u173 u174 u175 u176 : Value) (Q : Exit → Act → World → Prop) (hmem : (ga, Obj.cells #[.int .i64 l, .int .i64 (D : Int), .int .i64 c] 25 (0, 0)) ∈ KK) (hmt : (gt, Obj.cells #[.int .i64 l', .int .i64 (D' : Int), .int .i64 c'] 25 (0, 0)) ∈ KK) (hmp : (mb, om) ∈ KK) (hset : ∀ V : World, V.heap[mb]? = some om → SetI V mb xs) (hD' : D' ≤ 8) (hs : 0 ≤ s ∧ s ≤ 16) (hgo : -1 ≤ gone ∧ gone ≤ 8) (hGe : G = ⟨l, (D : Int), c, l', (D' : Int), c', s⟩) (hG : G.ok = true) (hle : ∀ t, t < 16 → G.D t ≤ (D' : Int)) (hI : (0 ≤ 16 ∧ KS W0 w b H M KK [] [] ∧ WI w b H M.n KK W0 (.slice none 0 0) (fltN (wF xs gone G) 0)))
    (hX : ∀ (v28 v132 v133 v134 v135 v136 v137 v138 v139 v140 v141 v142 v143 v144 v145 v146 v147 v148 v149 v150 v151 v152 v153 v154 v155 v156 v157 : Value) (xv : Value) (r : Nat) (V : World), (r ≤ 16 ∧ KS W0 V b H M KK [] [] ∧ WI V b H M.n KK W0 xv (fltN (wF xs gone G) r)) → (r = 16) → Q (.exit 3) ⟨List.toArray (u0 :: u1 :: (.int .i64 s) :: u3 :: u4 :: u5 :: u6 :: u7 :: u8 :: u9 :: u10 :: u11 :: u12 :: (.pointer (some ⟨ga, 0, none⟩)) :: (.pointer (some ⟨gt, 0, none⟩)) :: u15 :: u16 :: (.map (some mb)) :: u18 :: u19 :: u20 :: u21 :: u22 :: u23 :: u24 :: (.int .i64 gone) :: xv :: (.int .i64 ((r : Nat) : Int)) :: v28 :: u29 :: u30 :: u31 :: u32 :: u33 :: u34 :: u35 :: u36 :: u37 :: u38 :: u39 :: u40 :: u41 :: u42 :: u43 :: u44 :: u45 :: u46 :: u47 :: u48 :: u49 :: u50 :: u51 :: u52 :: u53 :: u54 :: u55 :: u56 :: u57 :: u58 :: u59 :: u60 :: u61 :: u62 :: u63 :: u64 :: u65 :: u66 :: u67 :: u68 :: u69 :: u70 :: u71 :: u72 :: u73 :: u74 :: u75 :: u76 :: u77 :: u78 :: u79 :: u80 :: u81 :: u82 :: u83 :: u84 :: u85 :: u86 :: u87 :: u88 :: u89 :: u90 :: u91 :: u92 :: u93 :: u94 :: u95 :: u96 :: u97 :: u98 :: u99 :: u100 :: u101 :: u102 :: u103 :: u104 :: u105 :: u106 :: u107 :: u108 :: u109 :: u110 :: u111 :: u112 :: u113 :: u114 :: u115 :: u116 :: u117 :: u118 :: u119 :: u120 :: u121 :: u122 :: u123 :: u124 :: u125 :: u126 :: u127 :: u128 :: u129 :: u130 :: u131 :: v132 :: v133 :: v134 :: v135 :: v136 :: v137 :: v138 :: v139 :: v140 :: v141 :: v142 :: v143 :: v144 :: v145 :: v146 :: v147 :: v148 :: v149 :: v150 :: v151 :: v152 :: v153 :: v154 :: v155 :: v156 :: v157 :: u158 :: u159 :: u160 :: u161 :: u162 :: u163 :: u164 :: u165 :: u166 :: u167 :: u168 :: u169 :: u170 :: u171 :: u172 :: u173 :: u174 :: u175 :: u176 :: []), []⟩ V) :
    Code.wp Try.prog (.loop (sub [1, 1, 1, 1, 1, 1, 1, 1, 1, 1, 1, 0, 1, 0, 0] codeSF)) Q ⟨List.toArray (u0 :: u1 :: (.int .i64 s) :: u3 :: u4 :: u5 :: u6 :: u7 :: u8 :: u9 :: u10 :: u11 :: u12 :: (.pointer (some ⟨ga, 0, none⟩)) :: (.pointer (some ⟨gt, 0, none⟩)) :: u15 :: u16 :: (.map (some mb)) :: u18 :: u19 :: u20 :: u21 :: u22 :: u23 :: u24 :: (.int .i64 gone) :: (.slice none 0 0) :: (.int .i64 ((0 : Nat) : Int)) :: u28 :: u29 :: u30 :: u31 :: u32 :: u33 :: u34 :: u35 :: u36 :: u37 :: u38 :: u39 :: u40 :: u41 :: u42 :: u43 :: u44 :: u45 :: u46 :: u47 :: u48 :: u49 :: u50 :: u51 :: u52 :: u53 :: u54 :: u55 :: u56 :: u57 :: u58 :: u59 :: u60 :: u61 :: u62 :: u63 :: u64 :: u65 :: u66 :: u67 :: u68 :: u69 :: u70 :: u71 :: u72 :: u73 :: u74 :: u75 :: u76 :: u77 :: u78 :: u79 :: u80 :: u81 :: u82 :: u83 :: u84 :: u85 :: u86 :: u87 :: u88 :: u89 :: u90 :: u91 :: u92 :: u93 :: u94 :: u95 :: u96 :: u97 :: u98 :: u99 :: u100 :: u101 :: u102 :: u103 :: u104 :: u105 :: u106 :: u107 :: u108 :: u109 :: u110 :: u111 :: u112 :: u113 :: u114 :: u115 :: u116 :: u117 :: u118 :: u119 :: u120 :: u121 :: u122 :: u123 :: u124 :: u125 :: u126 :: u127 :: u128 :: u129 :: u130 :: u131 :: u132 :: u133 :: u134 :: u135 :: u136 :: u137 :: u138 :: u139 :: u140 :: u141 :: u142 :: u143 :: u144 :: u145 :: u146 :: u147 :: u148 :: u149 :: u150 :: u151 :: u152 :: u153 :: u154 :: u155 :: u156 :: u157 :: u158 :: u159 :: u160 :: u161 :: u162 :: u163 :: u164 :: u165 :: u166 :: u167 :: u168 :: u169 :: u170 :: u171 :: u172 :: u173 :: u174 :: u175 :: u176 :: []), []⟩ w := by
  refine wp_loop_ghost (fun gk a V => ∀ C : Prop, (∀ (u28 u132 u133 u134 u135 u136 u137 u138 u139 u140 u141 u142 u143 u144 u145 u146 u147 u148 u149 u150 u151 u152 u153 u154 u155 u156 u157 : Value) (xv : Value) (r : Nat), gk = 16 - r → (r ≤ 16 ∧ KS W0 V b H M KK [] [] ∧ WI V b H M.n KK W0 xv (fltN (wF xs gone G) r)) → a = ⟨List.toArray (u0 :: u1 :: (.int .i64 s) :: u3 :: u4 :: u5 :: u6 :: u7 :: u8 :: u9 :: u10 :: u11 :: u12 :: (.pointer (some ⟨ga, 0, none⟩)) :: (.pointer (some ⟨gt, 0, none⟩)) :: u15 :: u16 :: (.map (some mb)) :: u18 :: u19 :: u20 :: u21 :: u22 :: u23 :: u24 :: (.int .i64 gone) :: xv :: (.int .i64 ((r : Nat) : Int)) :: u28 :: u29 :: u30 :: u31 :: u32 :: u33 :: u34 :: u35 :: u36 :: u37 :: u38 :: u39 :: u40 :: u41 :: u42 :: u43 :: u44 :: u45 :: u46 :: u47 :: u48 :: u49 :: u50 :: u51 :: u52 :: u53 :: u54 :: u55 :: u56 :: u57 :: u58 :: u59 :: u60 :: u61 :: u62 :: u63 :: u64 :: u65 :: u66 :: u67 :: u68 :: u69 :: u70 :: u71 :: u72 :: u73 :: u74 :: u75 :: u76 :: u77 :: u78 :: u79 :: u80 :: u81 :: u82 :: u83 :: u84 :: u85 :: u86 :: u87 :: u88 :: u89 :: u90 :: u91 :: u92 :: u93 :: u94 :: u95 :: u96 :: u97 :: u98 :: u99 :: u100 :: u101 :: u102 :: u103 :: u104 :: u105 :: u106 :: u107 :: u108 :: u109 :: u110 :: u111 :: u112 :: u113 :: u114 :: u115 :: u116 :: u117 :: u118 :: u119 :: u120 :: u121 :: u122 :: u123 :: u124 :: u125 :: u126 :: u127 :: u128 :: u129 :: u130 :: u131 :: u132 :: u133 :: u134 :: u135 :: u136 :: u137 :: u138 :: u139 :: u140 :: u141 :: u142 :: u143 :: u144 :: u145 :: u146 :: u147 :: u148 :: u149 :: u150 :: u151 :: u152 :: u153 :: u154 :: u155 :: u156 :: u157 :: u158 :: u159 :: u160 :: u161 :: u162 :: u163 :: u164 :: u165 :: u166 :: u167 :: u168 :: u169 :: u170 :: u171 :: u172 :: u173 :: u174 :: u175 :: u176 :: []), []⟩ → C) → C) (16 - 0) ?_ ?_
  · intro C hC
    exact hC _ _ _ _ _ _ _ _ _ _ _ _ _ _ _ _ _ _ _ _ _ _ _ _ _ _ _ ((.slice none 0 0)) (0) rfl hI rfl
  · intro gk a V hI'
    refine hI' _ ?_
    intro u28 u132 u133 u134 u135 u136 u137 u138 u139 u140 u141 u142 u143 u144 u145 u146 u147 u148 u149 u150 u151 u152 u153 u154 u155 u156 u157 xv r hk hinv ha
    subst ha
    subst hk
    refine sfBb _ _ _ _ _ _ _ _ _ _ _ _ _ _ _ _ _ _ _ _ _ _ _ _ _ _ _ _ _ _ _ _ _ _ _ _ _ _ _ _ _ _ _ _ _ _ _ _ _ _ _ _ _ _ _ _ _ _ _ _ _ _ _ _ _ _ _ _ _ _ _ _ _ _ _ _ _ _ _ _ _ _ _ _ _ _ _ _ _ _ _ _ _ _ _ _ _ _ _ _ _ _ _ _ _ _ _ _ _ _ _ _ _ _ _ _ _ _ _ _ _ _ _ _ _ _ _ _ _ _ _ _ _ _ _ _ _ _ _ _ _ _ _ _ _ _ _ _ _ _ _ _ _ _ _ _ _ _ _ _ _ _ _ _ _ _ _ _ _ _ _ _ hmem hmt hmp hset hD' hs hgo hGe hG hle hinv (fun v28 v132 v133 v134 v135 v136 v137 v138 v139 v140 v141 v142 v143 v144 v145 v146 v147 v148 v149 v150 v151 v152 v153 v154 v155 v156 v157 xv2 V2 h2 hm => ?_) (fun v28 v132 v133 v134 v135 v136 v137 v138 v139 v140 v141 v142 v143 v144 v145 v146 v147 v148 v149 v150 v151 v152 v153 v154 v155 v156 v157 hx => hX v28 v132 v133 v134 v135 v136 v137 v138 v139 v140 v141 v142 v143 v144 v145 v146 v147 v148 v149 v150 v151 v152 v153 v154 v155 v156 v157 xv r V hinv hx)
    refine ⟨_, hm, fun C hC => ?_⟩
    exact hC v28 v132 v133 v134 v135 v136 v137 v138 v139 v140 v141 v142 v143 v144 v145 v146 v147 v148 v149 v150 v151 v152 v153 v154 v155 v156 v157 (xv2) ((r + 1)) rfl h2 rfl
end Go.Proofs.Ytadmofpipfdedaa
end
