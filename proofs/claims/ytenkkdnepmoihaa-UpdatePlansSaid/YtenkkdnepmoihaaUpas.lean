/- Texts put together: RefSolveC, RefSolve. -/
import Derived.Test.YtenkkdnepmoihaaUpaq
section
set_option maxRecDepth 20000
set_option linter.unusedVariables false
set_option linter.unusedSimpArgs false
namespace Go.Proofs.Ytenkkdnepmoihaa
open Go.RowKit

/-- The first m of an own row's own rows. -/
structure RwP (lo : Nat) (W : World) (g n m : Nat) (bk : Nat → Nat) (rs : List (List UInt8)) : Prop where
  row : ∃ xs, W.ownsRow lo 32 1 (.slice (some ⟨g, 0, none⟩) n n) n xs ∧ xs.length = n ∧ ∀ k, k < m → xs[k]? = some (rwv bk (fun _ => 32) k)
  len : ∀ k, k < m → (rs.getD k []).length = 32
  own : ∀ k, k < m → OwB 5 W lo (.slice (some ⟨bk k, 0, none⟩) 32 32) (rs.getD k [])
  ne : ∀ k, k < m → bk k ≠ g
  inj : ∀ j k, j < m → k < m → bk j = bk k → j = k
theorem RwP.full {lo : Nat} {W : World} {g n : Nat} {bk : Nat → Nat} {rs : List (List UInt8)} (h : RwP lo W g n n bk rs) (hl : rs.length = n) (hn : n ≤ 9) : Rw lo W g n n bk (fun _ => 32) rs := by
  obtain ⟨⟨xs, h1, h2, h3⟩, h4, h5, h6, h7⟩ := h
  have e : xs = rwvs bk (fun _ => 32) n := List.ext_getElem? fun k => by
    by_cases hk : k < n
    · rw [h3 k hk, rwvs_get hk]
    · rw [List.getElem?_eq_none (by omega), List.getElem?_eq_none (by rw [rwvs_len]; omega)]
  exact ⟨e ▸ h1, hl, hn, h4, h5, h6, h7⟩
theorem RwP.next {lo : Nat} {W W2 : World} {g n m q : Nat} {bk : Nat → Nat} {rs : List (List UInt8)} {o : Obj} (h : RwP lo W g n m bk rs) (hm : m < n) (hq : W.heap.size = q) (hgl : g < q) (h2 : OwB 5 W2 lo (.slice (some ⟨q, 0, none⟩) 32 32) (rs.getD m [])) (h32 : (rs.getD m []).length = 32)
    (hg : ((W.alloc o).setCell ⟨g, m, none⟩ (.slice (some ⟨q, 0, none⟩) 32 32)).grownBy W2 (some q)) : RwP lo W2 g n (m + 1) (fun k => if k = m then q else bk k) rs := by
  obtain ⟨⟨xs, h1, hl, h3⟩, h4, h5, h6, h7⟩ := h
  have hlt : ∀ k, k < m → bk k < q := fun k hk => by rw [← hq]; exact ((h5 k hk).lt _ rfl).2
  obtain ⟨s1, s2⟩ := (h1.kept (grown_none (below1 W o)) (Classical.em _)).stored m (.slice (some ⟨q, 0, none⟩) 32 32)
  refine ⟨⟨_, s1.kept hg (.inr fun e => ?_), by rw [List.length_set]; exact hl, fun k hk => ?_⟩, fun k hk => ?_, fun k hk => ?_, fun k hk => ?_, fun j k hj hk e => ?_⟩
  · have e2 : g = q := Option.some.inj e
    omega
  · by_cases e : k = m
    · subst e
      rw [List.getElem?_set_self (by omega)]
      simp [rwv]
    · rw [List.getElem?_set_ne (by omega), h3 k (by omega)]
      simp [rwv, e]
  · by_cases e : k = m
    · rw [e]; exact h32
    · exact h4 k (by omega)
  · by_cases e : k = m
    · subst e; rw [if_pos rfl]; exact h2
    · rw [if_neg e]
      exact (((h5 k (by omega)).below (below1 W o)).grown s2 (.inr fun e2 => h6 k (by omega) (Option.some.inj e2))).grown hg (.inr fun e2 => by have := hlt k (by omega); have e3 : bk k = q := Option.some.inj e2; omega)
  · by_cases e : k = m
    · rw [if_pos e]; omega
    · rw [if_neg e]; exact h6 k (by omega)
  · by_cases e1 : j = m <;> by_cases e2 : k = m
    · omega
    · rw [if_pos e1, if_neg e2] at e; have := hlt k (by omega); omega
    · rw [if_neg e1, if_pos e2] at e; have := hlt j (by omega); omega
    · rw [if_neg e1, if_neg e2] at e; exact h7 j k (by omega) (by omega) e
theorem copyB_fill {x : List UInt8} (h : x.length = 0 ∨ x.length = 32) : copyB (List.replicate 32 0) x = fillR 32 x := by
  unfold copyB fillR
  rcases h with h | h
  · rw [if_pos h, List.eq_nil_of_length_eq_zero h]; rfl
  · rw [if_neg (by omega), List.length_replicate, h, List.take_of_length_le (by omega), List.drop_of_length_le (by simp)]; simp
theorem RwP.cells {lo : Nat} {W : World} {g n m k : Nat} {bk : Nat → Nat} {rs : List (List UInt8)} (h : RwP lo W g n m bk rs) (hk : k < n) : (∃ u, W.cell? ⟨g, k, none⟩ = some u) ∧ W.frozen? ⟨g, k, none⟩ = false ∧ lo ≤ g ∧ g < W.heap.size := by
  obtain ⟨⟨xs, h1, hl, _⟩, _⟩ := h
  refine ⟨⟨xs[k]'(by omega), ?_⟩, h1.frozenAt k, h1.lt g rfl⟩
  rw [World.ownsRow.cellAt h1 k (by omega)]
  simp [hl, hk]
set_option maxRecDepth 100000 in
set_option maxHeartbeats 3200000 in
theorem svFb {W0 : World} {g n c3 : Nat} {rs : List (List UInt8)} {A'' : Option Addr} {k : Nat} {bk : Nat → Nat} {w : World} (u1 u2 u3 u4 u5 u6 u7 u8 u9 u10 u11 u12 u13 u15 u16 u17 u18 u19 u20 u21 u22 u23 u24 u25 u26 u27 u28 u29 u30 u31 u32 u33 u34 u35 u36 u37 u38 u39 u40 u41 u42 u43 u44 u45 u46 u47 u48 u49 u50 u51 u52 u53 u54 u55 u56 u57 u58 u59 u60 u61 u62 u63 u64 u65 u66 u67 u68 u69 u70 u71 u72 u73 u74 u75 u76 u77 u81 u82 u83 u84 u85 u86 u87 u88 u89 u90 u91 u92 u93 u94 u95 u96 u97 u98 u99 u100 u101 u102 u103 u104 u105 u106 u107 u108 u109 u110 u111 u112 u113 u114 u115 u116 u117 u118 u119 u120 u121 u122 u123 u124 u125 u126 u127 u128 u129 u130 u131 u132 u133 u134 u135 u136 u137 u138 u139 u140 u141 u142 u143 u144 u145 u146 u147 u148 u149 u150 u151 u152 u153 u154 u155 u156 u157 u158 u159 u160 u161 u162 u163 u164 u165 u166 u167 u168 u169 u170 u171 u172 u173 u174 u175 u176 u177 u178 u179 u180 u181 u182 u183 u184 u185 u186 u187 u188 u189 u190 u191 u192 u193 u194 u195 u196 u197 u198 u199 u200 u201 u202 u203 u204 u205 u206 u207 u208 u209 u210 u211 u212 u213 u214 u215 u216 u217 u218 : Value) (K : Act → World → Prop) (Q0 : Exit → Act → World → Prop) (hrs : RdR W0 W0.heap.size A'' rs) (hn : rs.length = n) (hn8 : n ≤ 8) (hsz : ∀ k, k < n → (rs.getD k []).length = 0 ∨ (rs.getD k []).length = 32) (hI : (k ≤ n ∧ RwP W0.heap.size w g n k bk (filledB 32 rs) ∧ Below W0.heap.size W0 w))
    (hK : ∀ (v15 v16 v81 v82 v83 v84 v85 v86 v87 v88 v89 v90 v91 v92 v93 v94 v95 v96 : Value) (bk2 : Nat → Nat) (V : World), ((k + 1) ≤ n ∧ RwP W0.heap.size V g n (k + 1) bk2 (filledB 32 rs) ∧ Below W0.heap.size W0 V) → n - (k + 1) < n - k → K ⟨List.toArray ((.int .i64 32) :: u1 :: u2 :: u3 :: u4 :: u5 :: u6 :: u7 :: u8 :: u9 :: u10 :: u11 :: u12 :: u13 :: (.slice (some ⟨g, 0, none⟩) n n) :: v15 :: v16 :: u17 :: u18 :: u19 :: u20 :: u21 :: u22 :: u23 :: u24 :: u25 :: u26 :: u27 :: u28 :: u29 :: u30 :: u31 :: u32 :: u33 :: u34 :: u35 :: u36 :: u37 :: u38 :: u39 :: u40 :: u41 :: u42 :: u43 :: u44 :: u45 :: u46 :: u47 :: u48 :: u49 :: u50 :: u51 :: u52 :: u53 :: u54 :: u55 :: u56 :: u57 :: u58 :: u59 :: u60 :: u61 :: u62 :: u63 :: u64 :: u65 :: u66 :: u67 :: u68 :: u69 :: u70 :: u71 :: u72 :: u73 :: u74 :: u75 :: u76 :: u77 :: (.slice A'' n c3) :: (.int .i64 ((n : Nat) : Int)) :: (.int .i64 (((k + 1) : Nat) : Int)) :: v81 :: v82 :: v83 :: v84 :: v85 :: v86 :: v87 :: v88 :: v89 :: v90 :: v91 :: v92 :: v93 :: v94 :: v95 :: v96 :: u97 :: u98 :: u99 :: u100 :: u101 :: u102 :: u103 :: u104 :: u105 :: u106 :: u107 :: u108 :: u109 :: u110 :: u111 :: u112 :: u113 :: u114 :: u115 :: u116 :: u117 :: u118 :: u119 :: u120 :: u121 :: u122 :: u123 :: u124 :: u125 :: u126 :: u127 :: u128 :: u129 :: u130 :: u131 :: u132 :: u133 :: u134 :: u135 :: u136 :: u137 :: u138 :: u139 :: u140 :: u141 :: u142 :: u143 :: u144 :: u145 :: u146 :: u147 :: u148 :: u149 :: u150 :: u151 :: u152 :: u153 :: u154 :: u155 :: u156 :: u157 :: u158 :: u159 :: u160 :: u161 :: u162 :: u163 :: u164 :: u165 :: u166 :: u167 :: u168 :: u169 :: u170 :: u171 :: u172 :: u173 :: u174 :: u175 :: u176 :: u177 :: u178 :: u179 :: u180 :: u181 :: u182 :: u183 :: u184 :: u185 :: u186 :: u187 :: u188 :: u189 :: u190 :: u191 :: u192 :: u193 :: u194 :: u195 :: u196 :: u197 :: u198 :: u199 :: u200 :: u201 :: u202 :: u203 :: u204 :: u205 :: u206 :: u207 :: u208 :: u209 :: u210 :: u211 :: u212 :: u213 :: u214 :: u215 :: u216 :: u217 :: u218 :: []), []⟩ V)
    (hX : ∀ (v15 v16 v81 v82 v83 v84 v85 v86 v87 v88 v89 v90 v91 v92 v93 v94 v95 v96 : Value), (k = n) → Q0 (.exit 2) ⟨List.toArray ((.int .i64 32) :: u1 :: u2 :: u3 :: u4 :: u5 :: u6 :: u7 :: u8 :: u9 :: u10 :: u11 :: u12 :: u13 :: (.slice (some ⟨g, 0, none⟩) n n) :: v15 :: v16 :: u17 :: u18 :: u19 :: u20 :: u21 :: u22 :: u23 :: u24 :: u25 :: u26 :: u27 :: u28 :: u29 :: u30 :: u31 :: u32 :: u33 :: u34 :: u35 :: u36 :: u37 :: u38 :: u39 :: u40 :: u41 :: u42 :: u43 :: u44 :: u45 :: u46 :: u47 :: u48 :: u49 :: u50 :: u51 :: u52 :: u53 :: u54 :: u55 :: u56 :: u57 :: u58 :: u59 :: u60 :: u61 :: u62 :: u63 :: u64 :: u65 :: u66 :: u67 :: u68 :: u69 :: u70 :: u71 :: u72 :: u73 :: u74 :: u75 :: u76 :: u77 :: (.slice A'' n c3) :: (.int .i64 ((n : Nat) : Int)) :: (.int .i64 ((k : Nat) : Int)) :: v81 :: v82 :: v83 :: v84 :: v85 :: v86 :: v87 :: v88 :: v89 :: v90 :: v91 :: v92 :: v93 :: v94 :: v95 :: v96 :: u97 :: u98 :: u99 :: u100 :: u101 :: u102 :: u103 :: u104 :: u105 :: u106 :: u107 :: u108 :: u109 :: u110 :: u111 :: u112 :: u113 :: u114 :: u115 :: u116 :: u117 :: u118 :: u119 :: u120 :: u121 :: u122 :: u123 :: u124 :: u125 :: u126 :: u127 :: u128 :: u129 :: u130 :: u131 :: u132 :: u133 :: u134 :: u135 :: u136 :: u137 :: u138 :: u139 :: u140 :: u141 :: u142 :: u143 :: u144 :: u145 :: u146 :: u147 :: u148 :: u149 :: u150 :: u151 :: u152 :: u153 :: u154 :: u155 :: u156 :: u157 :: u158 :: u159 :: u160 :: u161 :: u162 :: u163 :: u164 :: u165 :: u166 :: u167 :: u168 :: u169 :: u170 :: u171 :: u172 :: u173 :: u174 :: u175 :: u176 :: u177 :: u178 :: u179 :: u180 :: u181 :: u182 :: u183 :: u184 :: u185 :: u186 :: u187 :: u188 :: u189 :: u190 :: u191 :: u192 :: u193 :: u194 :: u195 :: u196 :: u197 :: u198 :: u199 :: u200 :: u201 :: u202 :: u203 :: u204 :: u205 :: u206 :: u207 :: u208 :: u209 :: u210 :: u211 :: u212 :: u213 :: u214 :: u215 :: u216 :: u217 :: u218 :: []), []⟩ w) :
    Code.wp Try.prog (sub [1, 1, 1, 1, 1, 1, 1, 1, 0, 1, 0, 0] codeSO) (Exit.then K Q0) ⟨List.toArray ((.int .i64 32) :: u1 :: u2 :: u3 :: u4 :: u5 :: u6 :: u7 :: u8 :: u9 :: u10 :: u11 :: u12 :: u13 :: (.slice (some ⟨g, 0, none⟩) n n) :: u15 :: u16 :: u17 :: u18 :: u19 :: u20 :: u21 :: u22 :: u23 :: u24 :: u25 :: u26 :: u27 :: u28 :: u29 :: u30 :: u31 :: u32 :: u33 :: u34 :: u35 :: u36 :: u37 :: u38 :: u39 :: u40 :: u41 :: u42 :: u43 :: u44 :: u45 :: u46 :: u47 :: u48 :: u49 :: u50 :: u51 :: u52 :: u53 :: u54 :: u55 :: u56 :: u57 :: u58 :: u59 :: u60 :: u61 :: u62 :: u63 :: u64 :: u65 :: u66 :: u67 :: u68 :: u69 :: u70 :: u71 :: u72 :: u73 :: u74 :: u75 :: u76 :: u77 :: (.slice A'' n c3) :: (.int .i64 ((n : Nat) : Int)) :: (.int .i64 ((k : Nat) : Int)) :: u81 :: u82 :: u83 :: u84 :: u85 :: u86 :: u87 :: u88 :: u89 :: u90 :: u91 :: u92 :: u93 :: u94 :: u95 :: u96 :: u97 :: u98 :: u99 :: u100 :: u101 :: u102 :: u103 :: u104 :: u105 :: u106 :: u107 :: u108 :: u109 :: u110 :: u111 :: u112 :: u113 :: u114 :: u115 :: u116 :: u117 :: u118 :: u119 :: u120 :: u121 :: u122 :: u123 :: u124 :: u125 :: u126 :: u127 :: u128 :: u129 :: u130 :: u131 :: u132 :: u133 :: u134 :: u135 :: u136 :: u137 :: u138 :: u139 :: u140 :: u141 :: u142 :: u143 :: u144 :: u145 :: u146 :: u147 :: u148 :: u149 :: u150 :: u151 :: u152 :: u153 :: u154 :: u155 :: u156 :: u157 :: u158 :: u159 :: u160 :: u161 :: u162 :: u163 :: u164 :: u165 :: u166 :: u167 :: u168 :: u169 :: u170 :: u171 :: u172 :: u173 :: u174 :: u175 :: u176 :: u177 :: u178 :: u179 :: u180 :: u181 :: u182 :: u183 :: u184 :: u185 :: u186 :: u187 :: u188 :: u189 :: u190 :: u191 :: u192 :: u193 :: u194 :: u195 :: u196 :: u197 :: u198 :: u199 :: u200 :: u201 :: u202 :: u203 :: u204 :: u205 :: u206 :: u207 :: u208 :: u209 :: u210 :: u211 :: u212 :: u213 :: u214 :: u215 :: u216 :: u217 :: u218 :: []), []⟩ w := by
  have HK := Lib.hid hK
  have HX := Lib.hid hX
  clear hK hX
  conv => arg 2; whnf
  obtain ⟨hk, hR, hb⟩ := hI
  by_cases hlt : k < n
  · have i0 : (0 : Int) ≤ (k : Int) := by omega
    have i1 : (k : Int) < (n : Int) := by omega
    obtain ⟨b, off, rfl, hbb, hc⟩ := hrs.2 (by omega)
    obtain ⟨A', c', h1, h2⟩ := hc k (by omega)
    rw [← hb.cell (p := ⟨b, off + k, none⟩) hbb] at h1
    obtain ⟨⟨u, h3⟩, h5, hlo, hgl⟩ := hR.cells hlt
    have h2' := (h2.below hb (Nat.le_refl _)).more hb.size
    have hz := hsz k hlt
    have hfl : (filledB 32 rs).getD k [] = fillR 32 (rs.getD k []) := filledB_get 32 rs (by omega)
    have hcf := copyB_fill hz
    rw [← hfl] at hcf
    have hf32 : ((filledB 32 rs).getD k []).length = 32 := by
      rw [hfl]; unfold fillR; split
      · simp [zeroL]
      · rcases hz with e | e
        · omega
        · exact e
    generalize rs.getD k [] = row at h1 h2 h2' hz hcf
    have HR := Lib.hid hR
    have HB := Lib.hid hb
    have H2 := Lib.hid h2
    have Hcf := Lib.hid hcf
    have Hf32 := Lib.hid hf32
    have km := make_bytes 32 (by omega)
    rw [show ((32 : Nat) : Int) = 32 from rfl] at km
    have own0 := Lib.hid (own_make 5 w 32 (by omega))
    have h3' := (World.cell?_alloc_lt w (.cells (zcells 32) 5) ⟨g, k, none⟩ hgl).trans h3
    have hbw := Lib.hid (below1 w (.cells (zcells 32) 5))
    clear HX hrs hsz hc h2 hR hb hz hcf hfl hf32
    go_upto_region 20 with fail
    rw [← World.setCell_alloc_past _ _ _ _ hgl]
    obtain ⟨q, hq⟩ : ∃ q, w.heap.size = q := ⟨_, rfl⟩
    have hgq : g < q := by omega
    obtain ⟨⟨xs, x1, x2, x3⟩, _⟩ := HR.out
    obtain ⟨s1, s2⟩ := (x1.kept (grown_none hbw.out) (Classical.em _)).stored k (.slice (some ⟨w.heap.size, 0, none⟩) 32 32)
    have own1 := (own0.out.grown s2 (.inr fun e => by have e3 : w.heap.size = g := Option.some.inj e; omega)).le (show W0.heap.size ≤ w.heap.size from HB.out.size)
    have B1 := ((HB.out.alloc HB.out.size (.cells (zcells 32) 5)).setCell (p := ⟨g, k, none⟩) hlo (.slice (some ⟨w.heap.size, 0, none⟩) 32 32))
    have zc := World.ownsRow.cellAt s1 k (by omega)
    rw [List.getElem?_set_self (by omega)] at zc
    have hrd := H2.out.below B1 (Nat.le_refl _)
    have HN := Lib.hid (fun (W2 : World) O2 hg2 => HR.out.next (W2 := W2) (o := .cells (zcells 32) 5) hlt rfl hgl O2 Hf32.out hg2)
    clear x1 x2 x3 s1 s2 own0 hbw h1 h2' h3 h5 H2 HR HB h3' km
    generalize (w.alloc (.cells (zcells 32) 5)).setCell ⟨g, k, none⟩ (.slice (some ⟨w.heap.size, 0, none⟩) 32 32) = W1 at *
    rw [hq] at *
    go_wp2_with (refine wpList_copy_B rfl _ _ _ rfl 5 Try.underlying32 size_u8 q 32 32 W0.heap.size (List.replicate 32 0) rfl own1 (by simp) W0.heap.size A' row.length c' row rfl rfl hrd ?_; intro w6 O6 g6 _)
    rw [Hcf.out] at O6
    have K9 := Lib.hid (HN.out w6 O6 g6)
    have hq0 : W0.heap.size ≤ q := by omega
    have B9 := Lib.hid (B1.grown g6 B1.size (fun j hj => by have e3 : q = j := Option.some.inj hj; omega))
    clear O6 g6 HN
    go_wp2_with fail
    exact HK.out _ _ _ _ _ _ _ _ _ _ _ _ _ _ _ _ _ _ _ _ ⟨by omega, K9.out, B9.out⟩ (by omega)
  · have i1 : ¬ (k : Int) < (n : Int) := by omega
    have Hin := Lib.hid (show k = n by omega)
    clear HK hR
    go_wp2_with fail
    exact HX.out _ _ _ _ _ _ _ _ _ _ _ _ _ _ _ _ _ _ Hin.out
set_option maxRecDepth 100000 in
set_option maxHeartbeats 3200000 in
theorem svF {W0 : World} {g n c3 : Nat} {rs : List (List UInt8)} {A'' : Option Addr} {bk0 : Nat → Nat} {w : World} (u1 u2 u3 u4 u5 u6 u7 u8 u9 u10 u11 u12 u13 u15 u16 u17 u18 u19 u20 u21 u22 u23 u24 u25 u26 u27 u28 u29 u30 u31 u32 u33 u34 u35 u36 u37 u38 u39 u40 u41 u42 u43 u44 u45 u46 u47 u48 u49 u50 u51 u52 u53 u54 u55 u56 u57 u58 u59 u60 u61 u62 u63 u64 u65 u66 u67 u68 u69 u70 u71 u72 u73 u74 u75 u76 u77 u81 u82 u83 u84 u85 u86 u87 u88 u89 u90 u91 u92 u93 u94 u95 u96 u97 u98 u99 u100 u101 u102 u103 u104 u105 u106 u107 u108 u109 u110 u111 u112 u113 u114 u115 u116 u117 u118 u119 u120 u121 u122 u123 u124 u125 u126 u127 u128 u129 u130 u131 u132 u133 u134 u135 u136 u137 u138 u139 u140 u141 u142 u143 u144 u145 u146 u147 u148 u149 u150 u151 u152 u153 u154 u155 u156 u157 u158 u159 u160 u161 u162 u163 u164 u165 u166 u167 u168 u169 u170 u171 u172 u173 u174 u175 u176 u177 u178 u179 u180 u181 u182 u183 u184 u185 u186 u187 u188 u189 u190 u191 u192 u193 u194 u195 u196 u197 u198 u199 u200 u201 u202 u203 u204 u205 u206 u207 u208 u209 u210 u211 u212 u213 u214 u215 u216 u217 u218 : Value) (Q : Exit → Act → World → Prop) (hrs : RdR W0 W0.heap.size A'' rs) (hn : rs.length = n) (hn8 : n ≤ 8) (hsz : ∀ k, k < n → (rs.getD k []).length = 0 ∨ (rs.getD k []).length = 32) (hI : (0 ≤ n ∧ RwP W0.heap.size w g n 0 bk0 (filledB 32 rs) ∧ Below W0.heap.size W0 w))
    (hX : ∀ (v15 v16 v81 v82 v83 v84 v85 v86 v87 v88 v89 v90 v91 v92 v93 v94 v95 v96 : Value) (k : Nat) (bk : Nat → Nat) (V : World), (k ≤ n ∧ RwP W0.heap.size V g n k bk (filledB 32 rs) ∧ Below W0.heap.size W0 V) → (k = n) → Q (.exit 2) ⟨List.toArray ((.int .i64 32) :: u1 :: u2 :: u3 :: u4 :: u5 :: u6 :: u7 :: u8 :: u9 :: u10 :: u11 :: u12 :: u13 :: (.slice (some ⟨g, 0, none⟩) n n) :: v15 :: v16 :: u17 :: u18 :: u19 :: u20 :: u21 :: u22 :: u23 :: u24 :: u25 :: u26 :: u27 :: u28 :: u29 :: u30 :: u31 :: u32 :: u33 :: u34 :: u35 :: u36 :: u37 :: u38 :: u39 :: u40 :: u41 :: u42 :: u43 :: u44 :: u45 :: u46 :: u47 :: u48 :: u49 :: u50 :: u51 :: u52 :: u53 :: u54 :: u55 :: u56 :: u57 :: u58 :: u59 :: u60 :: u61 :: u62 :: u63 :: u64 :: u65 :: u66 :: u67 :: u68 :: u69 :: u70 :: u71 :: u72 :: u73 :: u74 :: u75 :: u76 :: u77 :: (.slice A'' n c3) :: (.int .i64 ((n : Nat) : Int)) :: (.int .i64 ((k : Nat) : Int)) :: v81 :: v82 :: v83 :: v84 :: v85 :: v86 :: v87 :: v88 :: v89 :: v90 :: v91 :: v92 :: v93 :: v94 :: v95 :: v96 :: u97 :: u98 :: u99 :: u100 :: u101 :: u102 :: u103 :: u104 :: u105 :: u106 :: u107 :: u108 :: u109 :: u110 :: u111 :: u112 :: u113 :: u114 :: u115 :: u116 :: u117 :: u118 :: u119 :: u120 :: u121 :: u122 :: u123 :: u124 :: u125 :: u126 :: u127 :: u128 :: u129 :: u130 :: u131 :: u132 :: u133 :: u134 :: u135 :: u136 :: u137 :: u138 :: u139 :: u140 :: u141 :: u142 :: u143 :: u144 :: u145 :: u146 :: u147 :: u148 :: u149 :: u150 :: u151 :: u152 :: u153 :: u154 :: u155 :: u156 :: u157 :: u158 :: u159 :: u160 :: u161 :: u162 :: u163 :: u164 :: u165 :: u166 :: u167 :: u168 :: u169 :: u170 :: u171 :: u172 :: u173 :: u174 :: u175 :: u176 :: u177 :: u178 :: u179 :: u180 :: u181 :: u182 :: u183 :: u184 :: u185 :: u186 :: u187 :: u188 :: u189 :: u190 :: u191 :: u192 :: u193 :: u194 :: u195 :: u196 :: u197 :: u198 :: u199 :: u200 :: u201 :: u202 :: u203 :: u204 :: u205 :: u206 :: u207 :: u208 :: u209 :: u210 :: u211 :: u212 :: u213 :: u214 :: u215 :: u216 :: u217 :: u218 :: []), []⟩ V) :
    Code.wp Try.prog (.loop (sub [1, 1, 1, 1, 1, 1, 1, 1, 0, 1, 0, 0] codeSO)) Q ⟨List.toArray ((.int .i64 32) :: u1 :: u2 :: u3 :: u4 :: u5 :: u6 :: u7 :: u8 :: u9 :: u10 :: u11 :: u12 :: u13 :: (.slice (some ⟨g, 0, none⟩) n n) :: u15 :: u16 :: u17 :: u18 :: u19 :: u20 :: u21 :: u22 :: u23 :: u24 :: u25 :: u26 :: u27 :: u28 :: u29 :: u30 :: u31 :: u32 :: u33 :: u34 :: u35 :: u36 :: u37 :: u38 :: u39 :: u40 :: u41 :: u42 :: u43 :: u44 :: u45 :: u46 :: u47 :: u48 :: u49 :: u50 :: u51 :: u52 :: u53 :: u54 :: u55 :: u56 :: u57 :: u58 :: u59 :: u60 :: u61 :: u62 :: u63 :: u64 :: u65 :: u66 :: u67 :: u68 :: u69 :: u70 :: u71 :: u72 :: u73 :: u74 :: u75 :: u76 :: u77 :: (.slice A'' n c3) :: (.int .i64 ((n : Nat) : Int)) :: (.int .i64 ((0 : Nat) : Int)) :: u81 :: u82 :: u83 :: u84 :: u85 :: u86 :: u87 :: u88 :: u89 :: u90 :: u91 :: u92 :: u93 :: u94 :: u95 :: u96 :: u97 :: u98 :: u99 :: u100 :: u101 :: u102 :: u103 :: u104 :: u105 :: u106 :: u107 :: u108 :: u109 :: u110 :: u111 :: u112 :: u113 :: u114 :: u115 :: u116 :: u117 :: u118 :: u119 :: u120 :: u121 :: u122 :: u123 :: u124 :: u125 :: u126 :: u127 :: u128 :: u129 :: u130 :: u131 :: u132 :: u133 :: u134 :: u135 :: u136 :: u137 :: u138 :: u139 :: u140 :: u141 :: u142 :: u143 :: u144 :: u145 :: u146 :: u147 :: u148 :: u149 :: u150 :: u151 :: u152 :: u153 :: u154 :: u155 :: u156 :: u157 :: u158 :: u159 :: u160 :: u161 :: u162 :: u163 :: u164 :: u165 :: u166 :: u167 :: u168 :: u169 :: u170 :: u171 :: u172 :: u173 :: u174 :: u175 :: u176 :: u177 :: u178 :: u179 :: u180 :: u181 :: u182 :: u183 :: u184 :: u185 :: u186 :: u187 :: u188 :: u189 :: u190 :: u191 :: u192 :: u193 :: u194 :: u195 :: u196 :: u197 :: u198 :: u199 :: u200 :: u201 :: u202 :: u203 :: u204 :: u205 :: u206 :: u207 :: u208 :: u209 :: u210 :: u211 :: u212 :: u213 :: u214 :: u215 :: u216 :: u217 :: u218 :: []), []⟩ w := by
  refine wp_loop_ghost (fun gk a V => ∀ C : Prop, (∀ (u15 u16 u81 u82 u83 u84 u85 u86 u87 u88 u89 u90 u91 u92 u93 u94 u95 u96 : Value) (k : Nat) (bk : Nat → Nat), gk = n - k → (k ≤ n ∧ RwP W0.heap.size V g n k bk (filledB 32 rs) ∧ Below W0.heap.size W0 V) → a = ⟨List.toArray ((.int .i64 32) :: u1 :: u2 :: u3 :: u4 :: u5 :: u6 :: u7 :: u8 :: u9 :: u10 :: u11 :: u12 :: u13 :: (.slice (some ⟨g, 0, none⟩) n n) :: u15 :: u16 :: u17 :: u18 :: u19 :: u20 :: u21 :: u22 :: u23 :: u24 :: u25 :: u26 :: u27 :: u28 :: u29 :: u30 :: u31 :: u32 :: u33 :: u34 :: u35 :: u36 :: u37 :: u38 :: u39 :: u40 :: u41 :: u42 :: u43 :: u44 :: u45 :: u46 :: u47 :: u48 :: u49 :: u50 :: u51 :: u52 :: u53 :: u54 :: u55 :: u56 :: u57 :: u58 :: u59 :: u60 :: u61 :: u62 :: u63 :: u64 :: u65 :: u66 :: u67 :: u68 :: u69 :: u70 :: u71 :: u72 :: u73 :: u74 :: u75 :: u76 :: u77 :: (.slice A'' n c3) :: (.int .i64 ((n : Nat) : Int)) :: (.int .i64 ((k : Nat) : Int)) :: u81 :: u82 :: u83 :: u84 :: u85 :: u86 :: u87 :: u88 :: u89 :: u90 :: u91 :: u92 :: u93 :: u94 :: u95 :: u96 :: u97 :: u98 :: u99 :: u100 :: u101 :: u102 :: u103 :: u104 :: u105 :: u106 :: u107 :: u108 :: u109 :: u110 :: u111 :: u112 :: u113 :: u114 :: u115 :: u116 :: u117 :: u118 :: u119 :: u120 :: u121 :: u122 :: u123 :: u124 :: u125 :: u126 :: u127 :: u128 :: u129 :: u130 :: u131 :: u132 :: u133 :: u134 :: u135 :: u136 :: u137 :: u138 :: u139 :: u140 :: u141 :: u142 :: u143 :: u144 :: u145 :: u146 :: u147 :: u148 :: u149 :: u150 :: u151 :: u152 :: u153 :: u154 :: u155 :: u156 :: u157 :: u158 :: u159 :: u160 :: u161 :: u162 :: u163 :: u164 :: u165 :: u166 :: u167 :: u168 :: u169 :: u170 :: u171 :: u172 :: u173 :: u174 :: u175 :: u176 :: u177 :: u178 :: u179 :: u180 :: u181 :: u182 :: u183 :: u184 :: u185 :: u186 :: u187 :: u188 :: u189 :: u190 :: u191 :: u192 :: u193 :: u194 :: u195 :: u196 :: u197 :: u198 :: u199 :: u200 :: u201 :: u202 :: u203 :: u204 :: u205 :: u206 :: u207 :: u208 :: u209 :: u210 :: u211 :: u212 :: u213 :: u214 :: u215 :: u216 :: u217 :: u218 :: []), []⟩ → C) → C) (n - 0) ?_ ?_
  · intro C hC
    exact hC _ _ _ _ _ _ _ _ _ _ _ _ _ _ _ _ _ _ (0) (bk0) rfl hI rfl
  · intro gk a V hI'
    refine hI' _ ?_
    intro u15 u16 u81 u82 u83 u84 u85 u86 u87 u88 u89 u90 u91 u92 u93 u94 u95 u96 k bk hk hinv ha
    subst ha
    subst hk
    refine svFb _ _ _ _ _ _ _ _ _ _ _ _ _ _ _ _ _ _ _ _ _ _ _ _ _ _ _ _ _ _ _ _ _ _ _ _ _ _ _ _ _ _ _ _ _ _ _ _ _ _ _ _ _ _ _ _ _ _ _ _ _ _ _ _ _ _ _ _ _ _ _ _ _ _ _ _ _ _ _ _ _ _ _ _ _ _ _ _ _ _ _ _ _ _ _ _ _ _ _ _ _ _ _ _ _ _ _ _ _ _ _ _ _ _ _ _ _ _ _ _ _ _ _ _ _ _ _ _ _ _ _ _ _ _ _ _ _ _ _ _ _ _ _ _ _ _ _ _ _ _ _ _ _ _ _ _ _ _ _ _ _ _ _ _ _ _ _ _ _ _ _ _ _ _ _ _ _ _ _ _ _ _ _ _ _ _ _ _ _ _ _ _ _ _ _ _ _ _ _ _ _ _ _ _ _ _ _ _ _ _ _ _ _ _ _ _ hrs hn hn8 hsz hinv (fun v15 v16 v81 v82 v83 v84 v85 v86 v87 v88 v89 v90 v91 v92 v93 v94 v95 v96 bk2 V2 h2 hm => ?_) (fun v15 v16 v81 v82 v83 v84 v85 v86 v87 v88 v89 v90 v91 v92 v93 v94 v95 v96 hx => hX v15 v16 v81 v82 v83 v84 v85 v86 v87 v88 v89 v90 v91 v92 v93 v94 v95 v96 k bk V hinv hx)
    refine ⟨_, hm, fun C hC => ?_⟩
    exact hC v15 v16 v81 v82 v83 v84 v85 v86 v87 v88 v89 v90 v91 v92 v93 v94 v95 v96 ((k + 1)) (bk2) rfl h2 rfl
set_option maxRecDepth 100000 in
set_option maxHeartbeats 3200000 in
theorem svCb {W0 : World} {nx cx base : Nat} {xs : List Value} {Ax : Option Addr} {k : Nat} {w : World} (u1 u2 u3 u4 u5 u6 u7 u8 u9 u10 u11 u12 u13 u14 u15 u16 u17 u18 u19 u20 u21 u22 u23 u24 u25 u26 u27 u28 u29 u30 u34 u35 u36 u37 u38 u39 u40 u41 u42 u43 u44 u45 u46 u47 u48 u49 u50 u51 u52 u53 u54 u55 u56 u57 u58 u59 u60 u61 u62 u63 u64 u65 u66 u67 u68 u69 u70 u71 u72 u73 u74 u75 u76 u77 u78 u79 u80 u81 u82 u83 u84 u85 u86 u87 u88 u89 u90 u91 u92 u93 u94 u95 u96 u97 u98 u99 u100 u101 u102 u103 u104 u105 u106 u107 u108 u109 u110 u111 u112 u113 u114 u115 u116 u117 u118 u119 u120 u121 u122 u123 u124 u125 u126 u127 u128 u129 u130 u131 u132 u133 u134 u135 u136 u137 u138 u139 u140 u141 u142 u143 u144 u145 u146 u147 u148 u149 u150 u151 u152 u153 u154 u155 u156 u157 u158 u159 u160 u161 u162 u163 u164 u165 u166 u167 u168 u169 u170 u171 u172 u173 u174 u175 u176 u177 u178 u179 u180 u181 u182 u183 u184 u185 u186 u187 u188 u189 u190 u191 u192 u193 u194 u195 u196 u197 u198 u199 u200 u201 u202 u203 u204 u205 u206 u207 u208 u209 u210 u211 u212 u213 u214 u215 u216 u217 u218 : Value) (K : Act → World → Prop) (Q0 : Exit → Act → World → Prop) (hx : W0.ownsRow base 32 1 (.slice Ax nx cx) nx xs) (hxl : xs.length = nx) (hn8 : nx ≤ 20) (hz : ∀ k, k < nx → ∃ (A : Option Addr) (len c : Nat), xs[k]? = some (.slice A len c) ∧ (len = 0 ∨ len = 32)) (hI : (k ≤ nx ∧ w = W0))
    (hK : ∀ (v8 v9 v13 v34 v35 v36 v37 v38 v39 v40 v41 v42 v43 v44 v45 v46 : Value)  (V : World), ((k + 1) ≤ nx ∧ V = W0) → nx - (k + 1) < nx - k → K ⟨List.toArray ((.int .i64 32) :: u1 :: u2 :: u3 :: u4 :: u5 :: u6 :: u7 :: v8 :: v9 :: u10 :: u11 :: u12 :: v13 :: u14 :: u15 :: u16 :: u17 :: u18 :: u19 :: u20 :: u21 :: u22 :: u23 :: u24 :: u25 :: u26 :: u27 :: u28 :: u29 :: u30 :: (.slice Ax nx cx) :: (.int .i64 ((nx : Nat) : Int)) :: (.int .i64 (((k + 1) : Nat) : Int)) :: v34 :: v35 :: v36 :: v37 :: v38 :: v39 :: v40 :: v41 :: v42 :: v43 :: v44 :: v45 :: v46 :: u47 :: u48 :: u49 :: u50 :: u51 :: u52 :: u53 :: u54 :: u55 :: u56 :: u57 :: u58 :: u59 :: u60 :: u61 :: u62 :: u63 :: u64 :: u65 :: u66 :: u67 :: u68 :: u69 :: u70 :: u71 :: u72 :: u73 :: u74 :: u75 :: u76 :: u77 :: u78 :: u79 :: u80 :: u81 :: u82 :: u83 :: u84 :: u85 :: u86 :: u87 :: u88 :: u89 :: u90 :: u91 :: u92 :: u93 :: u94 :: u95 :: u96 :: u97 :: u98 :: u99 :: u100 :: u101 :: u102 :: u103 :: u104 :: u105 :: u106 :: u107 :: u108 :: u109 :: u110 :: u111 :: u112 :: u113 :: u114 :: u115 :: u116 :: u117 :: u118 :: u119 :: u120 :: u121 :: u122 :: u123 :: u124 :: u125 :: u126 :: u127 :: u128 :: u129 :: u130 :: u131 :: u132 :: u133 :: u134 :: u135 :: u136 :: u137 :: u138 :: u139 :: u140 :: u141 :: u142 :: u143 :: u144 :: u145 :: u146 :: u147 :: u148 :: u149 :: u150 :: u151 :: u152 :: u153 :: u154 :: u155 :: u156 :: u157 :: u158 :: u159 :: u160 :: u161 :: u162 :: u163 :: u164 :: u165 :: u166 :: u167 :: u168 :: u169 :: u170 :: u171 :: u172 :: u173 :: u174 :: u175 :: u176 :: u177 :: u178 :: u179 :: u180 :: u181 :: u182 :: u183 :: u184 :: u185 :: u186 :: u187 :: u188 :: u189 :: u190 :: u191 :: u192 :: u193 :: u194 :: u195 :: u196 :: u197 :: u198 :: u199 :: u200 :: u201 :: u202 :: u203 :: u204 :: u205 :: u206 :: u207 :: u208 :: u209 :: u210 :: u211 :: u212 :: u213 :: u214 :: u215 :: u216 :: u217 :: u218 :: []), []⟩ V)
    (hX : ∀ (v8 v9 v13 v34 v35 v36 v37 v38 v39 v40 v41 v42 v43 v44 v45 v46 : Value), (k = nx) → Q0 (.exit 0) ⟨List.toArray ((.int .i64 32) :: u1 :: u2 :: u3 :: u4 :: u5 :: u6 :: u7 :: v8 :: v9 :: u10 :: u11 :: u12 :: v13 :: u14 :: u15 :: u16 :: u17 :: u18 :: u19 :: u20 :: u21 :: u22 :: u23 :: u24 :: u25 :: u26 :: u27 :: u28 :: u29 :: u30 :: (.slice Ax nx cx) :: (.int .i64 ((nx : Nat) : Int)) :: (.int .i64 ((k : Nat) : Int)) :: v34 :: v35 :: v36 :: v37 :: v38 :: v39 :: v40 :: v41 :: v42 :: v43 :: v44 :: v45 :: v46 :: u47 :: u48 :: u49 :: u50 :: u51 :: u52 :: u53 :: u54 :: u55 :: u56 :: u57 :: u58 :: u59 :: u60 :: u61 :: u62 :: u63 :: u64 :: u65 :: u66 :: u67 :: u68 :: u69 :: u70 :: u71 :: u72 :: u73 :: u74 :: u75 :: u76 :: u77 :: u78 :: u79 :: u80 :: u81 :: u82 :: u83 :: u84 :: u85 :: u86 :: u87 :: u88 :: u89 :: u90 :: u91 :: u92 :: u93 :: u94 :: u95 :: u96 :: u97 :: u98 :: u99 :: u100 :: u101 :: u102 :: u103 :: u104 :: u105 :: u106 :: u107 :: u108 :: u109 :: u110 :: u111 :: u112 :: u113 :: u114 :: u115 :: u116 :: u117 :: u118 :: u119 :: u120 :: u121 :: u122 :: u123 :: u124 :: u125 :: u126 :: u127 :: u128 :: u129 :: u130 :: u131 :: u132 :: u133 :: u134 :: u135 :: u136 :: u137 :: u138 :: u139 :: u140 :: u141 :: u142 :: u143 :: u144 :: u145 :: u146 :: u147 :: u148 :: u149 :: u150 :: u151 :: u152 :: u153 :: u154 :: u155 :: u156 :: u157 :: u158 :: u159 :: u160 :: u161 :: u162 :: u163 :: u164 :: u165 :: u166 :: u167 :: u168 :: u169 :: u170 :: u171 :: u172 :: u173 :: u174 :: u175 :: u176 :: u177 :: u178 :: u179 :: u180 :: u181 :: u182 :: u183 :: u184 :: u185 :: u186 :: u187 :: u188 :: u189 :: u190 :: u191 :: u192 :: u193 :: u194 :: u195 :: u196 :: u197 :: u198 :: u199 :: u200 :: u201 :: u202 :: u203 :: u204 :: u205 :: u206 :: u207 :: u208 :: u209 :: u210 :: u211 :: u212 :: u213 :: u214 :: u215 :: u216 :: u217 :: u218 :: []), []⟩ w) :
    Code.wp Try.prog (sub [1, 1, 1, 0, 1, 0, 0] codeSO) (Exit.then K Q0) ⟨List.toArray ((.int .i64 32) :: u1 :: u2 :: u3 :: u4 :: u5 :: u6 :: u7 :: u8 :: u9 :: u10 :: u11 :: u12 :: u13 :: u14 :: u15 :: u16 :: u17 :: u18 :: u19 :: u20 :: u21 :: u22 :: u23 :: u24 :: u25 :: u26 :: u27 :: u28 :: u29 :: u30 :: (.slice Ax nx cx) :: (.int .i64 ((nx : Nat) : Int)) :: (.int .i64 ((k : Nat) : Int)) :: u34 :: u35 :: u36 :: u37 :: u38 :: u39 :: u40 :: u41 :: u42 :: u43 :: u44 :: u45 :: u46 :: u47 :: u48 :: u49 :: u50 :: u51 :: u52 :: u53 :: u54 :: u55 :: u56 :: u57 :: u58 :: u59 :: u60 :: u61 :: u62 :: u63 :: u64 :: u65 :: u66 :: u67 :: u68 :: u69 :: u70 :: u71 :: u72 :: u73 :: u74 :: u75 :: u76 :: u77 :: u78 :: u79 :: u80 :: u81 :: u82 :: u83 :: u84 :: u85 :: u86 :: u87 :: u88 :: u89 :: u90 :: u91 :: u92 :: u93 :: u94 :: u95 :: u96 :: u97 :: u98 :: u99 :: u100 :: u101 :: u102 :: u103 :: u104 :: u105 :: u106 :: u107 :: u108 :: u109 :: u110 :: u111 :: u112 :: u113 :: u114 :: u115 :: u116 :: u117 :: u118 :: u119 :: u120 :: u121 :: u122 :: u123 :: u124 :: u125 :: u126 :: u127 :: u128 :: u129 :: u130 :: u131 :: u132 :: u133 :: u134 :: u135 :: u136 :: u137 :: u138 :: u139 :: u140 :: u141 :: u142 :: u143 :: u144 :: u145 :: u146 :: u147 :: u148 :: u149 :: u150 :: u151 :: u152 :: u153 :: u154 :: u155 :: u156 :: u157 :: u158 :: u159 :: u160 :: u161 :: u162 :: u163 :: u164 :: u165 :: u166 :: u167 :: u168 :: u169 :: u170 :: u171 :: u172 :: u173 :: u174 :: u175 :: u176 :: u177 :: u178 :: u179 :: u180 :: u181 :: u182 :: u183 :: u184 :: u185 :: u186 :: u187 :: u188 :: u189 :: u190 :: u191 :: u192 :: u193 :: u194 :: u195 :: u196 :: u197 :: u198 :: u199 :: u200 :: u201 :: u202 :: u203 :: u204 :: u205 :: u206 :: u207 :: u208 :: u209 :: u210 :: u211 :: u212 :: u213 :: u214 :: u215 :: u216 :: u217 :: u218 :: []), []⟩ w := by
  have HK := Lib.hid hK
  have HX := Lib.hid hX
  clear hK hX
  conv => arg 2; whnf
  obtain ⟨hk, rfl⟩ := hI
  by_cases hlt : k < nx
  · have i0 : (0 : Int) ≤ (k : Int) := by omega
    have i1 : (k : Int) < (nx : Int) := by omega
    obtain ⟨A0, c0, e0, _, hg⟩ := rx_form hx
    injection e0 with e0 _ e1
    subst e0 e1
    obtain ⟨g, rfl, hgb⟩ := hg (by omega)
    have zc := rx_cell_at hx k (by omega)
    obtain ⟨A, len, c, hxk, hl⟩ := hz k hlt
    rw [hxk] at zc
    clear HX hx hz hxk hg
    rcases hl with rfl | rfl
    · go_wp2_with fail
      exact HK.out _ _ _ _ _ _ _ _ _ _ _ _ _ _ _ _ _ ⟨by omega, rfl⟩ (by omega)
    · go_wp2_with fail
      exact HK.out _ _ _ _ _ _ _ _ _ _ _ _ _ _ _ _ _ ⟨by omega, rfl⟩ (by omega)
  · have i1 : ¬ (k : Int) < (nx : Int) := by omega
    have Hin := Lib.hid (show k = nx by omega)
    clear HK hx hz
    go_wp2_with fail
    exact HX.out _ _ _ _ _ _ _ _ _ _ _ _ _ _ _ _ Hin.out
set_option maxRecDepth 100000 in
set_option maxHeartbeats 3200000 in
theorem svC {W0 : World} {nx cx base : Nat} {xs : List Value} {Ax : Option Addr}  {w : World} (u1 u2 u3 u4 u5 u6 u7 u8 u9 u10 u11 u12 u13 u14 u15 u16 u17 u18 u19 u20 u21 u22 u23 u24 u25 u26 u27 u28 u29 u30 u34 u35 u36 u37 u38 u39 u40 u41 u42 u43 u44 u45 u46 u47 u48 u49 u50 u51 u52 u53 u54 u55 u56 u57 u58 u59 u60 u61 u62 u63 u64 u65 u66 u67 u68 u69 u70 u71 u72 u73 u74 u75 u76 u77 u78 u79 u80 u81 u82 u83 u84 u85 u86 u87 u88 u89 u90 u91 u92 u93 u94 u95 u96 u97 u98 u99 u100 u101 u102 u103 u104 u105 u106 u107 u108 u109 u110 u111 u112 u113 u114 u115 u116 u117 u118 u119 u120 u121 u122 u123 u124 u125 u126 u127 u128 u129 u130 u131 u132 u133 u134 u135 u136 u137 u138 u139 u140 u141 u142 u143 u144 u145 u146 u147 u148 u149 u150 u151 u152 u153 u154 u155 u156 u157 u158 u159 u160 u161 u162 u163 u164 u165 u166 u167 u168 u169 u170 u171 u172 u173 u174 u175 u176 u177 u178 u179 u180 u181 u182 u183 u184 u185 u186 u187 u188 u189 u190 u191 u192 u193 u194 u195 u196 u197 u198 u199 u200 u201 u202 u203 u204 u205 u206 u207 u208 u209 u210 u211 u212 u213 u214 u215 u216 u217 u218 : Value) (Q : Exit → Act → World → Prop) (hx : W0.ownsRow base 32 1 (.slice Ax nx cx) nx xs) (hxl : xs.length = nx) (hn8 : nx ≤ 20) (hz : ∀ k, k < nx → ∃ (A : Option Addr) (len c : Nat), xs[k]? = some (.slice A len c) ∧ (len = 0 ∨ len = 32)) (hI : (0 ≤ nx ∧ w = W0))
    (hX : ∀ (v8 v9 v13 v34 v35 v36 v37 v38 v39 v40 v41 v42 v43 v44 v45 v46 : Value) (k : Nat) (V : World), (k ≤ nx ∧ V = W0) → (k = nx) → Q (.exit 0) ⟨List.toArray ((.int .i64 32) :: u1 :: u2 :: u3 :: u4 :: u5 :: u6 :: u7 :: v8 :: v9 :: u10 :: u11 :: u12 :: v13 :: u14 :: u15 :: u16 :: u17 :: u18 :: u19 :: u20 :: u21 :: u22 :: u23 :: u24 :: u25 :: u26 :: u27 :: u28 :: u29 :: u30 :: (.slice Ax nx cx) :: (.int .i64 ((nx : Nat) : Int)) :: (.int .i64 ((k : Nat) : Int)) :: v34 :: v35 :: v36 :: v37 :: v38 :: v39 :: v40 :: v41 :: v42 :: v43 :: v44 :: v45 :: v46 :: u47 :: u48 :: u49 :: u50 :: u51 :: u52 :: u53 :: u54 :: u55 :: u56 :: u57 :: u58 :: u59 :: u60 :: u61 :: u62 :: u63 :: u64 :: u65 :: u66 :: u67 :: u68 :: u69 :: u70 :: u71 :: u72 :: u73 :: u74 :: u75 :: u76 :: u77 :: u78 :: u79 :: u80 :: u81 :: u82 :: u83 :: u84 :: u85 :: u86 :: u87 :: u88 :: u89 :: u90 :: u91 :: u92 :: u93 :: u94 :: u95 :: u96 :: u97 :: u98 :: u99 :: u100 :: u101 :: u102 :: u103 :: u104 :: u105 :: u106 :: u107 :: u108 :: u109 :: u110 :: u111 :: u112 :: u113 :: u114 :: u115 :: u116 :: u117 :: u118 :: u119 :: u120 :: u121 :: u122 :: u123 :: u124 :: u125 :: u126 :: u127 :: u128 :: u129 :: u130 :: u131 :: u132 :: u133 :: u134 :: u135 :: u136 :: u137 :: u138 :: u139 :: u140 :: u141 :: u142 :: u143 :: u144 :: u145 :: u146 :: u147 :: u148 :: u149 :: u150 :: u151 :: u152 :: u153 :: u154 :: u155 :: u156 :: u157 :: u158 :: u159 :: u160 :: u161 :: u162 :: u163 :: u164 :: u165 :: u166 :: u167 :: u168 :: u169 :: u170 :: u171 :: u172 :: u173 :: u174 :: u175 :: u176 :: u177 :: u178 :: u179 :: u180 :: u181 :: u182 :: u183 :: u184 :: u185 :: u186 :: u187 :: u188 :: u189 :: u190 :: u191 :: u192 :: u193 :: u194 :: u195 :: u196 :: u197 :: u198 :: u199 :: u200 :: u201 :: u202 :: u203 :: u204 :: u205 :: u206 :: u207 :: u208 :: u209 :: u210 :: u211 :: u212 :: u213 :: u214 :: u215 :: u216 :: u217 :: u218 :: []), []⟩ V) :
    Code.wp Try.prog (.loop (sub [1, 1, 1, 0, 1, 0, 0] codeSO)) Q ⟨List.toArray ((.int .i64 32) :: u1 :: u2 :: u3 :: u4 :: u5 :: u6 :: u7 :: u8 :: u9 :: u10 :: u11 :: u12 :: u13 :: u14 :: u15 :: u16 :: u17 :: u18 :: u19 :: u20 :: u21 :: u22 :: u23 :: u24 :: u25 :: u26 :: u27 :: u28 :: u29 :: u30 :: (.slice Ax nx cx) :: (.int .i64 ((nx : Nat) : Int)) :: (.int .i64 ((0 : Nat) : Int)) :: u34 :: u35 :: u36 :: u37 :: u38 :: u39 :: u40 :: u41 :: u42 :: u43 :: u44 :: u45 :: u46 :: u47 :: u48 :: u49 :: u50 :: u51 :: u52 :: u53 :: u54 :: u55 :: u56 :: u57 :: u58 :: u59 :: u60 :: u61 :: u62 :: u63 :: u64 :: u65 :: u66 :: u67 :: u68 :: u69 :: u70 :: u71 :: u72 :: u73 :: u74 :: u75 :: u76 :: u77 :: u78 :: u79 :: u80 :: u81 :: u82 :: u83 :: u84 :: u85 :: u86 :: u87 :: u88 :: u89 :: u90 :: u91 :: u92 :: u93 :: u94 :: u95 :: u96 :: u97 :: u98 :: u99 :: u100 :: u101 :: u102 :: u103 :: u104 :: u105 :: u106 :: u107 :: u108 :: u109 :: u110 :: u111 :: u112 :: u113 :: u114 :: u115 :: u116 :: u117 :: u118 :: u119 :: u120 :: u121 :: u122 :: u123 :: u124 :: u125 :: u126 :: u127 :: u128 :: u129 :: u130 :: u131 :: u132 :: u133 :: u134 :: u135 :: u136 :: u137 :: u138 :: u139 :: u140 :: u141 :: u142 :: u143 :: u144 :: u145 :: u146 :: u147 :: u148 :: u149 :: u150 :: u151 :: u152 :: u153 :: u154 :: u155 :: u156 :: u157 :: u158 :: u159 :: u160 :: u161 :: u162 :: u163 :: u164 :: u165 :: u166 :: u167 :: u168 :: u169 :: u170 :: u171 :: u172 :: u173 :: u174 :: u175 :: u176 :: u177 :: u178 :: u179 :: u180 :: u181 :: u182 :: u183 :: u184 :: u185 :: u186 :: u187 :: u188 :: u189 :: u190 :: u191 :: u192 :: u193 :: u194 :: u195 :: u196 :: u197 :: u198 :: u199 :: u200 :: u201 :: u202 :: u203 :: u204 :: u205 :: u206 :: u207 :: u208 :: u209 :: u210 :: u211 :: u212 :: u213 :: u214 :: u215 :: u216 :: u217 :: u218 :: []), []⟩ w := by
  refine wp_loop_ghost (fun gk a V => ∀ C : Prop, (∀ (u8 u9 u13 u34 u35 u36 u37 u38 u39 u40 u41 u42 u43 u44 u45 u46 : Value) (k : Nat), gk = nx - k → (k ≤ nx ∧ V = W0) → a = ⟨List.toArray ((.int .i64 32) :: u1 :: u2 :: u3 :: u4 :: u5 :: u6 :: u7 :: u8 :: u9 :: u10 :: u11 :: u12 :: u13 :: u14 :: u15 :: u16 :: u17 :: u18 :: u19 :: u20 :: u21 :: u22 :: u23 :: u24 :: u25 :: u26 :: u27 :: u28 :: u29 :: u30 :: (.slice Ax nx cx) :: (.int .i64 ((nx : Nat) : Int)) :: (.int .i64 ((k : Nat) : Int)) :: u34 :: u35 :: u36 :: u37 :: u38 :: u39 :: u40 :: u41 :: u42 :: u43 :: u44 :: u45 :: u46 :: u47 :: u48 :: u49 :: u50 :: u51 :: u52 :: u53 :: u54 :: u55 :: u56 :: u57 :: u58 :: u59 :: u60 :: u61 :: u62 :: u63 :: u64 :: u65 :: u66 :: u67 :: u68 :: u69 :: u70 :: u71 :: u72 :: u73 :: u74 :: u75 :: u76 :: u77 :: u78 :: u79 :: u80 :: u81 :: u82 :: u83 :: u84 :: u85 :: u86 :: u87 :: u88 :: u89 :: u90 :: u91 :: u92 :: u93 :: u94 :: u95 :: u96 :: u97 :: u98 :: u99 :: u100 :: u101 :: u102 :: u103 :: u104 :: u105 :: u106 :: u107 :: u108 :: u109 :: u110 :: u111 :: u112 :: u113 :: u114 :: u115 :: u116 :: u117 :: u118 :: u119 :: u120 :: u121 :: u122 :: u123 :: u124 :: u125 :: u126 :: u127 :: u128 :: u129 :: u130 :: u131 :: u132 :: u133 :: u134 :: u135 :: u136 :: u137 :: u138 :: u139 :: u140 :: u141 :: u142 :: u143 :: u144 :: u145 :: u146 :: u147 :: u148 :: u149 :: u150 :: u151 :: u152 :: u153 :: u154 :: u155 :: u156 :: u157 :: u158 :: u159 :: u160 :: u161 :: u162 :: u163 :: u164 :: u165 :: u166 :: u167 :: u168 :: u169 :: u170 :: u171 :: u172 :: u173 :: u174 :: u175 :: u176 :: u177 :: u178 :: u179 :: u180 :: u181 :: u182 :: u183 :: u184 :: u185 :: u186 :: u187 :: u188 :: u189 :: u190 :: u191 :: u192 :: u193 :: u194 :: u195 :: u196 :: u197 :: u198 :: u199 :: u200 :: u201 :: u202 :: u203 :: u204 :: u205 :: u206 :: u207 :: u208 :: u209 :: u210 :: u211 :: u212 :: u213 :: u214 :: u215 :: u216 :: u217 :: u218 :: []), []⟩ → C) → C) (nx - 0) ?_ ?_
  · intro C hC
    exact hC _ _ _ _ _ _ _ _ _ _ _ _ _ _ _ _ (0) rfl hI rfl
  · intro gk a V hI'
    refine hI' _ ?_
    intro u8 u9 u13 u34 u35 u36 u37 u38 u39 u40 u41 u42 u43 u44 u45 u46 k hk hinv ha
    subst ha
    subst hk
    refine svCb _ _ _ _ _ _ _ _ _ _ _ _ _ _ _ _ _ _ _ _ _ _ _ _ _ _ _ _ _ _ _ _ _ _ _ _ _ _ _ _ _ _ _ _ _ _ _ _ _ _ _ _ _ _ _ _ _ _ _ _ _ _ _ _ _ _ _ _ _ _ _ _ _ _ _ _ _ _ _ _ _ _ _ _ _ _ _ _ _ _ _ _ _ _ _ _ _ _ _ _ _ _ _ _ _ _ _ _ _ _ _ _ _ _ _ _ _ _ _ _ _ _ _ _ _ _ _ _ _ _ _ _ _ _ _ _ _ _ _ _ _ _ _ _ _ _ _ _ _ _ _ _ _ _ _ _ _ _ _ _ _ _ _ _ _ _ _ _ _ _ _ _ _ _ _ _ _ _ _ _ _ _ _ _ _ _ _ _ _ _ _ _ _ _ _ _ _ _ _ _ _ _ _ _ _ _ _ _ _ _ _ _ _ _ _ _ _ hx hxl hn8 hz hinv (fun v8 v9 v13 v34 v35 v36 v37 v38 v39 v40 v41 v42 v43 v44 v45 v46  V2 h2 hm => ?_) (fun v8 v9 v13 v34 v35 v36 v37 v38 v39 v40 v41 v42 v43 v44 v45 v46 hx => hX v8 v9 v13 v34 v35 v36 v37 v38 v39 v40 v41 v42 v43 v44 v45 v46 k V hinv hx)
    refine ⟨_, hm, fun C hC => ?_⟩
    exact hC v8 v9 v13 v34 v35 v36 v37 v38 v39 v40 v41 v42 v43 v44 v45 v46 ((k + 1)) rfl h2 rfl
end Go.Proofs.Ytenkkdnepmoihaa
end
section
set_option maxRecDepth 20000
set_option linter.unusedVariables false
set_option linter.unusedSimpArgs false
namespace Go.Proofs.Ytenkkdnepmoihaa
open Go.RowKit

theorem rowsT_zero {fs rs : List (List UInt8)} (h : Lacks 32 fs rs) : rowsT fs rs 32 0 = filledB 32 rs := ext_getD (by rw [rowsT_len, filledB_len, h.len]) fun k hk => by
  rw [rowsT_len] at hk
  rw [rowsT_get hk, filledB_get 32 rs (by rw [h.len]; exact hk)]
  unfold rowT fillR
  by_cases e : (rs.getD k []).length = 0
  · rw [if_pos e, if_pos e]; simp
  · rw [if_neg e, if_neg e]
    rcases h.row k hk with q | q
    · exact absurd q e
    · exact q.symm
def thereB (p q : List UInt8) : Nat := (if p.length = 0 then 0 else 1) + (if q.length = 0 then 0 else 1)
def TakeYes (w : World) (n : Nat) (fs : List (List UInt8)) (e : Ending) (w' : World) : Prop := ∃ g bk, e = .returned (.tuple #[.slice (some ⟨g, 0, none⟩) n n, .bool true]) ∧ Rw w.heap.size w' g n n bk (fun _ => 32) fs ∧ Below w.heap.size w w'
def TakeNo (w : World) (e : Ending) (w' : World) : Prop := e = .returned (.tuple #[.slice none 0 0, .bool false]) ∧ Below w.heap.size w w'
set_option maxRecDepth 100000 in
set_option maxHeartbeats 3200000 in
theorem svK {n c3 : Nat} {A'' : Option Addr} {w : World} (u0 u1 u2 u4 u5 u6 u7 u8 u9 u10 u11 u12 u13 u14 u15 u16 u17 u18 u19 u20 u21 u22 u23 u24 u25 u26 u27 u28 u29 u30 u31 u32 u33 u34 u35 u36 u37 u38 u39 u40 u41 u42 u43 u44 u45 u46 u47 u48 u49 u50 u51 u52 u53 u54 u55 u56 u57 u58 u59 u60 u61 u62 u63 u64 u65 u66 u67 u68 u69 u70 u71 u72 u73 u74 u75 u76 u77 u78 u79 u80 u81 u82 u83 u84 u85 u86 u87 u88 u89 u90 u91 u92 u93 u94 u95 u96 u97 u98 u99 u100 u101 u102 u103 u104 u105 u106 u107 u108 u109 u110 u111 u112 u113 u114 u115 u116 u117 u118 u119 u120 u121 u122 u123 u124 u125 u126 u127 u128 u129 u130 u131 u132 u133 u134 u135 u136 u137 u138 u139 u140 u141 u142 u143 u144 u145 u146 u147 u148 u149 u150 u151 u152 u153 u154 u155 u156 u157 u158 u159 u160 u161 u162 u163 u164 u165 u166 u167 u168 u169 u170 u171 u172 u173 u174 u175 u176 u177 u178 u179 u180 u181 u182 u183 u184 u185 u186 u187 u188 u189 u190 u191 u192 u193 u194 u195 u196 u197 u198 u199 u200 u201 u202 u203 u204 u205 u206 u207 u208 u209 u210 u211 u212 u213 u214 u215 u216 u217 u218 : Value) (K : Act → World → Prop) (Q0 : Exit → Act → World → Prop) (hn8 : n ≤ 8)
    (hK : ∀ (v75 v76 v77 : Value) (g : Nat) (V : World), g = w.heap.size → V = w.alloc (.cells (madeCells #[.slice none 0 0] n) 32) → K ⟨List.toArray (u0 :: u1 :: u2 :: (.slice A'' n c3) :: u4 :: u5 :: u6 :: u7 :: u8 :: u9 :: u10 :: u11 :: u12 :: u13 :: (.slice (some ⟨g, 0, none⟩) n n) :: u15 :: u16 :: u17 :: u18 :: u19 :: u20 :: u21 :: u22 :: u23 :: u24 :: u25 :: u26 :: u27 :: u28 :: u29 :: u30 :: u31 :: u32 :: u33 :: u34 :: u35 :: u36 :: u37 :: u38 :: u39 :: u40 :: u41 :: u42 :: u43 :: u44 :: u45 :: u46 :: u47 :: u48 :: u49 :: u50 :: u51 :: u52 :: u53 :: u54 :: u55 :: u56 :: u57 :: u58 :: u59 :: u60 :: u61 :: u62 :: u63 :: u64 :: u65 :: u66 :: u67 :: u68 :: u69 :: u70 :: u71 :: u72 :: u73 :: u74 :: v75 :: v76 :: v77 :: u78 :: u79 :: u80 :: u81 :: u82 :: u83 :: u84 :: u85 :: u86 :: u87 :: u88 :: u89 :: u90 :: u91 :: u92 :: u93 :: u94 :: u95 :: u96 :: u97 :: u98 :: u99 :: u100 :: u101 :: u102 :: u103 :: u104 :: u105 :: u106 :: u107 :: u108 :: u109 :: u110 :: u111 :: u112 :: u113 :: u114 :: u115 :: u116 :: u117 :: u118 :: u119 :: u120 :: u121 :: u122 :: u123 :: u124 :: u125 :: u126 :: u127 :: u128 :: u129 :: u130 :: u131 :: u132 :: u133 :: u134 :: u135 :: u136 :: u137 :: u138 :: u139 :: u140 :: u141 :: u142 :: u143 :: u144 :: u145 :: u146 :: u147 :: u148 :: u149 :: u150 :: u151 :: u152 :: u153 :: u154 :: u155 :: u156 :: u157 :: u158 :: u159 :: u160 :: u161 :: u162 :: u163 :: u164 :: u165 :: u166 :: u167 :: u168 :: u169 :: u170 :: u171 :: u172 :: u173 :: u174 :: u175 :: u176 :: u177 :: u178 :: u179 :: u180 :: u181 :: u182 :: u183 :: u184 :: u185 :: u186 :: u187 :: u188 :: u189 :: u190 :: u191 :: u192 :: u193 :: u194 :: u195 :: u196 :: u197 :: u198 :: u199 :: u200 :: u201 :: u202 :: u203 :: u204 :: u205 :: u206 :: u207 :: u208 :: u209 :: u210 :: u211 :: u212 :: u213 :: u214 :: u215 :: u216 :: u217 :: u218 :: []), []⟩ V) :
    Code.wp Try.prog (sub [1, 1, 1, 1, 1, 1, 1, 0] codeSO) (Exit.then K Q0) ⟨List.toArray (u0 :: u1 :: u2 :: (.slice A'' n c3) :: u4 :: u5 :: u6 :: u7 :: u8 :: u9 :: u10 :: u11 :: u12 :: u13 :: u14 :: u15 :: u16 :: u17 :: u18 :: u19 :: u20 :: u21 :: u22 :: u23 :: u24 :: u25 :: u26 :: u27 :: u28 :: u29 :: u30 :: u31 :: u32 :: u33 :: u34 :: u35 :: u36 :: u37 :: u38 :: u39 :: u40 :: u41 :: u42 :: u43 :: u44 :: u45 :: u46 :: u47 :: u48 :: u49 :: u50 :: u51 :: u52 :: u53 :: u54 :: u55 :: u56 :: u57 :: u58 :: u59 :: u60 :: u61 :: u62 :: u63 :: u64 :: u65 :: u66 :: u67 :: u68 :: u69 :: u70 :: u71 :: u72 :: u73 :: u74 :: u75 :: u76 :: u77 :: u78 :: u79 :: u80 :: u81 :: u82 :: u83 :: u84 :: u85 :: u86 :: u87 :: u88 :: u89 :: u90 :: u91 :: u92 :: u93 :: u94 :: u95 :: u96 :: u97 :: u98 :: u99 :: u100 :: u101 :: u102 :: u103 :: u104 :: u105 :: u106 :: u107 :: u108 :: u109 :: u110 :: u111 :: u112 :: u113 :: u114 :: u115 :: u116 :: u117 :: u118 :: u119 :: u120 :: u121 :: u122 :: u123 :: u124 :: u125 :: u126 :: u127 :: u128 :: u129 :: u130 :: u131 :: u132 :: u133 :: u134 :: u135 :: u136 :: u137 :: u138 :: u139 :: u140 :: u141 :: u142 :: u143 :: u144 :: u145 :: u146 :: u147 :: u148 :: u149 :: u150 :: u151 :: u152 :: u153 :: u154 :: u155 :: u156 :: u157 :: u158 :: u159 :: u160 :: u161 :: u162 :: u163 :: u164 :: u165 :: u166 :: u167 :: u168 :: u169 :: u170 :: u171 :: u172 :: u173 :: u174 :: u175 :: u176 :: u177 :: u178 :: u179 :: u180 :: u181 :: u182 :: u183 :: u184 :: u185 :: u186 :: u187 :: u188 :: u189 :: u190 :: u191 :: u192 :: u193 :: u194 :: u195 :: u196 :: u197 :: u198 :: u199 :: u200 :: u201 :: u202 :: u203 :: u204 :: u205 :: u206 :: u207 :: u208 :: u209 :: u210 :: u211 :: u212 :: u213 :: u214 :: u215 :: u216 :: u217 :: u218 :: []), []⟩ w := by
  have HK := Lib.hid hK
  clear hK
  conv => arg 2; whnf
  have km := make_rows n (by omega)
  go_wp2_with fail
  exact HK.out _ _ _ _ _ rfl rfl
set_option maxRecDepth 100000 in
set_option maxHeartbeats 3200000 in
theorem svT {W0 : World} {g n c3 cp1 cq1 cm : Nat} {fs rs : List (List UInt8)} {p q : List UInt8} {A A' A'' Am : Option Addr} {ms : List Nat} {w : World} (u4 u5 u6 u7 u8 u9 u11 u12 u13 u15 u16 u17 u18 u19 u20 u21 u22 u23 u24 u25 u26 u27 u28 u29 u30 u31 u32 u33 u34 u35 u36 u37 u38 u39 u40 u41 u42 u43 u44 u45 u46 u47 u48 u49 u50 u51 u52 u53 u54 u55 u56 u57 u58 u59 u60 u61 u62 u63 u64 u65 u66 u67 u68 u69 u70 u71 u72 u73 u74 u75 u76 u77 u78 u79 u80 u81 u82 u83 u84 u85 u86 u87 u88 u89 u90 u91 u92 u93 u94 u95 u96 u97 u98 u99 u100 u101 u102 u103 u104 u105 u106 u107 u108 u109 u110 u111 u112 u113 u114 u115 u116 u117 u118 u119 u120 u121 u122 u123 u124 u125 u126 u127 u128 u129 u130 u131 u132 u133 u134 u135 u136 u137 u138 u139 u140 u141 u142 u143 u144 u145 u146 u147 u148 u149 u150 u151 u152 u153 u154 u155 u156 u157 u158 u159 u160 u161 u162 u163 u164 u165 u166 u167 u168 u169 u170 u171 u172 u173 u174 u175 u176 u177 u178 u179 u180 u181 u182 u183 u184 u185 u186 u187 u188 u189 u190 u191 u192 u193 u194 u195 u196 u197 u198 u199 u200 u201 u202 u203 u204 u205 u206 u207 u208 u209 u210 u211 u212 u213 u214 u215 u216 u217 u218 : Value) (Q : Exit → Act → World → Prop) (h : Lacks 32 fs rs) (h0 : 0 < fs.length) (hn8 : n ≤ 8) (hnn : fs.length = n) (hp : p.length = 0 ∨ p = pB fs) (hq : q.length = 0 ∨ q = qB fs) (hmE : missB rs = ms) (hm : ms.length ≤ (if p.length = 0 then 0 else 1) + (if q.length = 0 then 0 else 1)) (hpr : RdB W0 W0.heap.size A p) (hqr : RdB W0 W0.heap.size A' q) (hms : (0 < ms.length → ∃ gm, Am = some ⟨gm, 0, none⟩ ∧ gm < W0.heap.size ∧ ∀ j, j < ms.length → W0.cell? ⟨gm, j, none⟩ = some (.int .i64 ((ms.getD j 0 : Nat) : Int)))) (hrs : RdR W0 W0.heap.size A'' rs) (hR0 : RwP W0.heap.size w g n 0 (fun _ => 0) (filledB 32 rs)) (hb : Below W0.heap.size W0 w)
    (hQ : ∀ (v0 v1 v2 v3 v4 v5 v6 v7 v10 v11 v12 v13 v14 v15 v16 v17 v18 v19 v20 v21 v22 v23 v24 v25 v26 v27 v28 v29 v30 v31 v32 v33 v34 v35 v36 v37 v38 v39 v40 v41 v42 v43 v44 v45 v46 v47 v48 v49 v50 v51 v52 v53 v54 v55 v56 v57 v58 v59 v60 v61 v62 v63 v64 v65 v66 v67 v68 v69 v70 v71 v72 v73 v74 v75 v76 v77 v78 v79 v80 v81 v82 v83 v84 v85 v86 v87 v88 v89 v90 v91 v92 v93 v94 v95 v96 v97 v98 v99 v100 v101 v102 v103 v104 v105 v106 v107 v108 v109 v110 v111 v112 v113 v114 v115 v116 v117 v118 v119 v120 v121 v122 v123 v124 v125 v126 v127 v128 v129 v130 v131 v132 v133 v134 v135 v136 v137 v138 v139 v140 v141 v142 v143 v144 v145 v146 v147 v148 v149 v150 v151 v152 v153 v154 v155 v156 v157 v158 v159 v160 v161 v162 v163 v164 v165 v166 v167 v168 v169 v170 v171 v172 v173 v174 v175 v176 v177 v178 v179 v180 v181 v182 v183 v184 v185 v186 v187 v188 v189 v190 v191 v192 v193 v194 v195 v196 v197 v198 v199 v200 v201 v202 v203 v204 v205 v206 v207 v208 v209 v210 v211 v212 v213 v214 v215 v216 v217 v218 : Value) (bk : Nat → Nat) (V : World), Rw W0.heap.size V g n n bk (fun _ => 32) fs → Below W0.heap.size W0 V → Q .ret ⟨List.toArray (v0 :: v1 :: v2 :: v3 :: v4 :: v5 :: v6 :: v7 :: (.slice (some ⟨g, 0, none⟩) n n) :: (.bool true) :: v10 :: v11 :: v12 :: v13 :: v14 :: v15 :: v16 :: v17 :: v18 :: v19 :: v20 :: v21 :: v22 :: v23 :: v24 :: v25 :: v26 :: v27 :: v28 :: v29 :: v30 :: v31 :: v32 :: v33 :: v34 :: v35 :: v36 :: v37 :: v38 :: v39 :: v40 :: v41 :: v42 :: v43 :: v44 :: v45 :: v46 :: v47 :: v48 :: v49 :: v50 :: v51 :: v52 :: v53 :: v54 :: v55 :: v56 :: v57 :: v58 :: v59 :: v60 :: v61 :: v62 :: v63 :: v64 :: v65 :: v66 :: v67 :: v68 :: v69 :: v70 :: v71 :: v72 :: v73 :: v74 :: v75 :: v76 :: v77 :: v78 :: v79 :: v80 :: v81 :: v82 :: v83 :: v84 :: v85 :: v86 :: v87 :: v88 :: v89 :: v90 :: v91 :: v92 :: v93 :: v94 :: v95 :: v96 :: v97 :: v98 :: v99 :: v100 :: v101 :: v102 :: v103 :: v104 :: v105 :: v106 :: v107 :: v108 :: v109 :: v110 :: v111 :: v112 :: v113 :: v114 :: v115 :: v116 :: v117 :: v118 :: v119 :: v120 :: v121 :: v122 :: v123 :: v124 :: v125 :: v126 :: v127 :: v128 :: v129 :: v130 :: v131 :: v132 :: v133 :: v134 :: v135 :: v136 :: v137 :: v138 :: v139 :: v140 :: v141 :: v142 :: v143 :: v144 :: v145 :: v146 :: v147 :: v148 :: v149 :: v150 :: v151 :: v152 :: v153 :: v154 :: v155 :: v156 :: v157 :: v158 :: v159 :: v160 :: v161 :: v162 :: v163 :: v164 :: v165 :: v166 :: v167 :: v168 :: v169 :: v170 :: v171 :: v172 :: v173 :: v174 :: v175 :: v176 :: v177 :: v178 :: v179 :: v180 :: v181 :: v182 :: v183 :: v184 :: v185 :: v186 :: v187 :: v188 :: v189 :: v190 :: v191 :: v192 :: v193 :: v194 :: v195 :: v196 :: v197 :: v198 :: v199 :: v200 :: v201 :: v202 :: v203 :: v204 :: v205 :: v206 :: v207 :: v208 :: v209 :: v210 :: v211 :: v212 :: v213 :: v214 :: v215 :: v216 :: v217 :: v218 :: []), []⟩ V) :
    Code.wp Try.prog (sub [1, 1, 1, 1, 1, 1, 1, 1] codeSO) Q ⟨List.toArray ((.int .i64 32) :: (.slice A p.length cp1) :: (.slice A' q.length cq1) :: (.slice A'' n c3) :: u4 :: u5 :: u6 :: u7 :: u8 :: u9 :: (.slice Am ms.length cm) :: u11 :: u12 :: u13 :: (.slice (some ⟨g, 0, none⟩) n n) :: u15 :: u16 :: u17 :: u18 :: u19 :: u20 :: u21 :: u22 :: u23 :: u24 :: u25 :: u26 :: u27 :: u28 :: u29 :: u30 :: u31 :: u32 :: u33 :: u34 :: u35 :: u36 :: u37 :: u38 :: u39 :: u40 :: u41 :: u42 :: u43 :: u44 :: u45 :: u46 :: u47 :: u48 :: u49 :: u50 :: u51 :: u52 :: u53 :: u54 :: u55 :: u56 :: u57 :: u58 :: u59 :: u60 :: u61 :: u62 :: u63 :: u64 :: u65 :: u66 :: u67 :: u68 :: u69 :: u70 :: u71 :: u72 :: u73 :: u74 :: u75 :: u76 :: u77 :: u78 :: u79 :: u80 :: u81 :: u82 :: u83 :: u84 :: u85 :: u86 :: u87 :: u88 :: u89 :: u90 :: u91 :: u92 :: u93 :: u94 :: u95 :: u96 :: u97 :: u98 :: u99 :: u100 :: u101 :: u102 :: u103 :: u104 :: u105 :: u106 :: u107 :: u108 :: u109 :: u110 :: u111 :: u112 :: u113 :: u114 :: u115 :: u116 :: u117 :: u118 :: u119 :: u120 :: u121 :: u122 :: u123 :: u124 :: u125 :: u126 :: u127 :: u128 :: u129 :: u130 :: u131 :: u132 :: u133 :: u134 :: u135 :: u136 :: u137 :: u138 :: u139 :: u140 :: u141 :: u142 :: u143 :: u144 :: u145 :: u146 :: u147 :: u148 :: u149 :: u150 :: u151 :: u152 :: u153 :: u154 :: u155 :: u156 :: u157 :: u158 :: u159 :: u160 :: u161 :: u162 :: u163 :: u164 :: u165 :: u166 :: u167 :: u168 :: u169 :: u170 :: u171 :: u172 :: u173 :: u174 :: u175 :: u176 :: u177 :: u178 :: u179 :: u180 :: u181 :: u182 :: u183 :: u184 :: u185 :: u186 :: u187 :: u188 :: u189 :: u190 :: u191 :: u192 :: u193 :: u194 :: u195 :: u196 :: u197 :: u198 :: u199 :: u200 :: u201 :: u202 :: u203 :: u204 :: u205 :: u206 :: u207 :: u208 :: u209 :: u210 :: u211 :: u212 :: u213 :: u214 :: u215 :: u216 :: u217 :: u218 :: []), []⟩ w := by
  have HQ := Lib.hid hQ
  clear hQ
  conv => arg 2; whnf
  have hnr : rs.length = n := h.len.trans hnn
  go_upto_block 2 with fail
  refine wp_block ?_
  refine svF _ _ _ _ _ _ _ _ _ _ _ _ _ _ _ _ _ _ _ _ _ _ _ _ _ _ _ _ _ _ _ _ _ _ _ _ _ _ _ _ _ _ _ _ _ _ _ _ _ _ _ _ _ _ _ _ _ _ _ _ _ _ _ _ _ _ _ _ _ _ _ _ _ _ _ _ _ _ _ _ _ _ _ _ _ _ _ _ _ _ _ _ _ _ _ _ _ _ _ _ _ _ _ _ _ _ _ _ _ _ _ _ _ _ _ _ _ _ _ _ _ _ _ _ _ _ _ _ _ _ _ _ _ _ _ _ _ _ _ _ _ _ _ _ _ _ _ _ _ _ _ _ _ _ _ _ _ _ _ _ _ _ _ _ _ _ _ _ _ _ _ _ _ _ _ _ _ _ _ _ _ _ _ _ _ _ _ _ _ _ _ _ _ _ _ _ _ _ _ _ _ _ _ _ _ _ _ _ _ _ _ _ _ _ _ hrs hnr hn8 (fun k hk => (h.row k (by omega)).imp id fun e => by rw [e]; exact h.full (by omega)) (bk0 := fun _ => 0) ⟨Nat.zero_le _, hR0, hb⟩ (fun v15 v16 v81 v82 v83 v84 v85 v86 v87 v88 v89 v90 v91 v92 v93 v94 v95 v96 k bk V1 hI hx => ?_)
  obtain ⟨_, hR1, hb1⟩ := hI
  rw [hx] at hR1
  have HR1 := Lib.hid (show Rw W0.heap.size V1 g n n bk (fun _ => 32) (rowsT fs rs 32 0) by rw [rowsT_zero h]; exact hR1.full (by rw [filledB_len]; exact hnr) (by omega))
  clear hR1 hR0
  go_upto_block 4 with fail
  refine wp_block ?_
  refine svM _ _ _ _ _ _ _ _ _ _ _ _ _ _ _ _ _ _ _ _ _ _ _ _ _ _ _ _ _ _ _ _ _ _ _ _ _ _ _ _ _ _ _ _ _ _ _ _ _ _ _ _ _ _ _ _ _ _ _ _ _ _ _ _ _ _ _ _ _ _ _ _ _ _ _ _ _ _ _ _ _ _ _ _ _ _ _ _ _ _ _ _ _ _ _ _ _ _ _ _ _ _ _ _ _ _ _ _ _ _ _ _ _ _ _ _ _ _ _ _ _ _ _ _ _ _ _ _ _ _ _ _ _ _ _ _ _ _ _ _ _ _ _ _ _ _ _ _ _ _ _ _ _ _ _ _ _ _ _ _ _ _ _ _ _ _ _ _ _ _ _ _ _ _ _ _ _ _ _ _ _ _ _ _ _ _ _ _ _ _ _ _ _ _ _ _ _ _ _ _ _ _ _ _ _ _ _ _ _ _ _ _ _ _ h h0 hn8 hnn hp hq hmE hm hpr hqr hms ⟨Nat.zero_le _, HR1.out, hb1⟩ (fun v18 v19 v20 v21 v22 v23 v24 v97 v98 v99 v100 v101 v102 v103 v104 v105 v106 v107 v108 v109 v110 v111 v112 v113 v114 v115 v116 v117 v118 v119 v120 v121 v122 v123 v124 v125 v126 v127 v128 v129 v130 v131 v132 v133 v134 v135 v136 v137 v138 v139 v140 v141 v142 v143 v144 v145 v146 v147 v148 v149 v150 v151 v152 v153 v154 v155 v156 v157 v158 v159 v160 v161 v162 v163 v164 v165 v166 v167 v168 v169 v170 v171 v172 v173 v174 v175 v176 v177 v178 v179 v180 v181 v182 v183 v184 v185 v186 v187 v188 v189 v190 v191 v192 v193 v194 v195 v196 v197 v198 v199 v200 v201 v202 v203 v204 v205 v206 v207 v208 v209 v210 v211 v212 v213 v214 v215 v216 v217 i V2 hI hx2 => ?_)
  obtain ⟨_, hR2, hb2⟩ := hI
  rw [hx2, rowsT_all h] at hR2
  have HR2 := Lib.hid hR2
  have HB2 := Lib.hid hb2
  clear hR2 hb2 hx hx2 HR1 hb1 h hp hq hmE hm hpr hqr hms hrs
  go_wp2_with fail
  exact HQ.out _ _ _ _ _ _ _ _ _ _ _ _ _ _ _ _ _ _ _ _ _ _ _ _ _ _ _ _ _ _ _ _ _ _ _ _ _ _ _ _ _ _ _ _ _ _ _ _ _ _ _ _ _ _ _ _ _ _ _ _ _ _ _ _ _ _ _ _ _ _ _ _ _ _ _ _ _ _ _ _ _ _ _ _ _ _ _ _ _ _ _ _ _ _ _ _ _ _ _ _ _ _ _ _ _ _ _ _ _ _ _ _ _ _ _ _ _ _ _ _ _ _ _ _ _ _ _ _ _ _ _ _ _ _ _ _ _ _ _ _ _ _ _ _ _ _ _ _ _ _ _ _ _ _ _ _ _ _ _ _ _ _ _ _ _ _ _ _ _ _ _ _ _ _ _ _ _ _ _ _ _ _ _ _ _ _ _ _ _ _ _ _ _ _ _ _ _ _ _ _ _ _ _ _ _ _ _ _ _ _ _ _ _ _ _ _ _ bk V2 HR2.out HB2.out
theorem rwP_zero (w : World) (n : Nat) (rs : List (List UInt8)) (hn : n ≤ 1000000) : RwP w.heap.size (w.alloc (.cells (madeCells #[.slice none 0 0] n) 32)) w.heap.size n 0 (fun _ => 0) rs :=
  ⟨⟨_, World.ownsRow_lit w _ n (Nat.le_refl _) (by unfold maxLen; omega) (by simp [size_madeCells]), by rw [toList_madeCells_one]; simp, fun k hk => absurd hk (Nat.not_lt_zero _)⟩, fun k hk => absurd hk (Nat.not_lt_zero _), fun k hk => absurd hk (Nat.not_lt_zero _), fun k hk => absurd hk (Nat.not_lt_zero _), fun j k hj _ _ => absurd hj (Nat.not_lt_zero _)⟩
set_option maxRecDepth 100000 in
set_option maxHeartbeats 3200000 in
theorem refSolve_no {fs rs : List (List UInt8)} {p q : List UInt8} (A A' A'' : Option Addr) (cp1 cq1 c3 n : Nat) (w : World) (h : Lacks 32 fs rs) (h0 : 0 < fs.length) (hn8 : n ≤ 8) (hn : rs.length = n) (hp : p.length = 0 ∨ p = pB fs) (hq : q.length = 0 ∨ q = qB fs) (hpr : RdB w w.heap.size A p) (hqr : RdB w w.heap.size A' q) (hrs : RdR w w.heap.size A'' rs) (hm : (missB rs).length > thereB p q) :
    Calls Try.prog 37 #[.int .i64 32, .slice A p.length cp1, .slice A' q.length cq1, .slice A'' n c3] w (TakeNo w) := by
  have CM := Lib.hid (refMissing_any A'' rs n c3 w hn (by omega) hrs)
  have hnp : 0 < n := by have := h.len; omega
  go_enter Try.func37, Try.ntmps37
  go_wp2_with fail
  refine CM.out.mono ?_
  rintro e w1 ⟨v1, rfl, hom, hb1⟩
  obtain ⟨Am, cm, rfl, hmc⟩ := hom.rd
  clear CM
  have hbl := below1 w1 (.cells #[.slice A p.length cp1, .slice A' q.length cq1] 32)
  have B1 := hb1.trans (hbl.mono hb1.size)
  have hol := World.ownsRow_lit (base := w1.heap.size) (e := 32) (size := 1) w1 #[.slice A p.length cp1, .slice A' q.length cq1] 2 (Nat.le_refl _) (by unfold maxLen; omega) rfl
  obtain ⟨vs, hv1, hv2, hv3⟩ := ((hrs.below B1 (Nat.le_refl _)).more B1.size).vals
  have Hvl := Lib.hid (show n = vs.length by rw [hv2.1]; exact hn.symm)
  go_upto_block 0 with (at_builtin; refine wpList_append_V rfl _ _ _ rfl w1.heap.size 32 (.slice none 0 0) 24 Try.underlying43 info_row rfl _ 2 [.slice A p.length cp1, .slice A' q.length cq1] rfl hol _ A'' n c3 vs rfl Hvl.out hv1 hv3 (by unfold maxLen; omega) (by omega) (by simp) ?_; intro v2 w2 hown2 hg2 hat2; obtain ⟨Ax, cx, rfl, _, _⟩ := rx_form hown2)
  have b12 : Below w1.heap.size w1 w2 := hbl.grown hg2 (by simp) (fun j hj => by have e3 : w1.heap.size = j := Option.some.inj hj; omega)
  have B2 := Lib.hid (B1.grown hg2 B1.size (fun j hj => by have e3 : w1.heap.size = j := Option.some.inj hj; have := hb1.size; omega))
  have hms : (0 < (missB rs).length → ∃ gm, Am = some ⟨gm, 0, none⟩ ∧ gm < w2.heap.size ∧ ∀ j, j < (missB rs).length → w2.cell? ⟨gm, j, none⟩ = some (.int .i64 (((missB rs).getD j 0 : Nat) : Int))) := fun h5 => by
    obtain ⟨gm, rfl, h6, h7, h8⟩ := hmc h5
    have hlt : gm < w2.heap.size := by have := b12.size; omega
    refine ⟨gm, rfl, hlt, fun j hj => ?_⟩
    rw [b12.cell (p := ⟨gm, j, none⟩) h7]
    exact h8 j hj
  have hxl : ([.slice A p.length cp1, .slice A' q.length cq1] ++ vs : List Value).length = 2 + n := by have := Hvl.out; simp; omega
  have lp : p.length = 0 ∨ p.length = 32 := hp.imp id fun e => by rw [e]; exact pB_len h0 h.alike
  have lq : q.length = 0 ∨ q.length = 32 := hq.imp id fun e => by rw [e]; exact qB_len h0 h.alike
  have hz : ∀ k, k < 2 + n → ∃ (A0 : Option Addr) (len c : Nat), ([.slice A p.length cp1, .slice A' q.length cq1] ++ vs : List Value)[k]? = some (.slice A0 len c) ∧ (len = 0 ∨ len = 32) := fun k hk => by
    match k with
    | 0 => exact ⟨_, _, _, rfl, lp⟩
    | 1 => exact ⟨_, _, _, rfl, lq⟩
    | k + 2 =>
      obtain ⟨A0, c0, h1, _⟩ := hv2.2 k (by omega)
      exact ⟨A0, _, c0, h1, (h.row k (by have := h.len; omega)).imp id fun e => by rw [e]; exact h.full (by have := h.len; omega)⟩
  have HP := Lib.hid ((hpr.below B2.out (Nat.le_refl _)).more B2.out.size)
  have HQ := Lib.hid ((hqr.below B2.out (Nat.le_refl _)).more B2.out.size)
  have HRS := Lib.hid ((hrs.below B2.out (Nat.le_refl _)).more B2.out.size)
  clear hv1 hv2 hv3 hol B1 hbl hb1 hmc hom hg2 hat2 b12 hpr hqr hrs
  refine wp_block ?_
  refine svC _ _ _ _ _ _ _ _ _ _ _ _ _ _ _ _ _ _ _ _ _ _ _ _ _ _ _ _ _ _ _ _ _ _ _ _ _ _ _ _ _ _ _ _ _ _ _ _ _ _ _ _ _ _ _ _ _ _ _ _ _ _ _ _ _ _ _ _ _ _ _ _ _ _ _ _ _ _ _ _ _ _ _ _ _ _ _ _ _ _ _ _ _ _ _ _ _ _ _ _ _ _ _ _ _ _ _ _ _ _ _ _ _ _ _ _ _ _ _ _ _ _ _ _ _ _ _ _ _ _ _ _ _ _ _ _ _ _ _ _ _ _ _ _ _ _ _ _ _ _ _ _ _ _ _ _ _ _ _ _ _ _ _ _ _ _ _ _ _ _ _ _ _ _ _ _ _ _ _ _ _ _ _ _ _ _ _ _ _ _ _ _ _ _ _ _ _ _ _ _ _ _ _ _ _ _ _ _ _ _ _ _ _ _ _ _ hown2 hxl (by omega) hz ⟨Nat.zero_le _, rfl⟩ (fun v8 v9 v13 v34 v35 v36 v37 v38 v39 v40 v41 v42 v43 v44 v45 v46 k V hI hx => ?_)
  obtain ⟨_, rfl⟩ := hI
  clear hown2 hz hx hxl lp lq
  have n1 : ¬ (n : Int) < 1 := by omega
  have n8 : ¬ (8 : Int) < (n : Int) := by omega
  by_cases hp0 : p.length = 0
  · have p0 : ¬ (0 : Int) < (p.length : Int) := by omega
    by_cases hq0 : q.length = 0
    · have q0 : ¬ (0 : Int) < (q.length : Int) := by omega
      have ht : (missB rs).length > 0 := by have h5 := hm; unfold thereB at h5; rw [if_pos hp0, if_pos hq0] at h5; omega
      have t0 : (0 : Int) < ((missB rs).length : Int) := by omega
      clear hp0 hq0 ht hm hms
      go_wp2_with fail
      go_ret2
      exact ⟨rfl, B2.out⟩
    · have q0 : (0 : Int) < (q.length : Int) := by omega
      have ht : (missB rs).length > 1 := by have h5 := hm; unfold thereB at h5; rw [if_pos hp0, if_neg hq0] at h5; omega
      have t0 : (1 : Int) < ((missB rs).length : Int) := by omega
      clear hp0 hq0 ht hm hms
      go_wp2_with fail
      go_ret2
      exact ⟨rfl, B2.out⟩
  · have p0 : (0 : Int) < (p.length : Int) := by omega
    by_cases hq0 : q.length = 0
    · have q0 : ¬ (0 : Int) < (q.length : Int) := by omega
      have ht : (missB rs).length > 1 := by have h5 := hm; unfold thereB at h5; rw [if_neg hp0, if_pos hq0] at h5; omega
      have t0 : (1 : Int) < ((missB rs).length : Int) := by omega
      clear hp0 hq0 ht hm hms
      go_wp2_with fail
      go_ret2
      exact ⟨rfl, B2.out⟩
    · have q0 : (0 : Int) < (q.length : Int) := by omega
      have ht : (missB rs).length > 2 := by have h5 := hm; unfold thereB at h5; rw [if_neg hp0, if_neg hq0] at h5; omega
      have t0 : (2 : Int) < ((missB rs).length : Int) := by omega
      clear hp0 hq0 ht hm hms
      go_wp2_with fail
      go_ret2
      exact ⟨rfl, B2.out⟩
set_option maxRecDepth 100000 in
set_option maxHeartbeats 3200000 in
theorem refSolve_yes {fs rs : List (List UInt8)} {p q : List UInt8} (A A' A'' : Option Addr) (cp1 cq1 c3 n : Nat) (w : World) (h : Lacks 32 fs rs) (h0 : 0 < fs.length) (hn8 : n ≤ 8) (hn : rs.length = n) (hp : p.length = 0 ∨ p = pB fs) (hq : q.length = 0 ∨ q = qB fs) (hpr : RdB w w.heap.size A p) (hqr : RdB w w.heap.size A' q) (hrs : RdR w w.heap.size A'' rs) (hm : (missB rs).length ≤ thereB p q) :
    Calls Try.prog 37 #[.int .i64 32, .slice A p.length cp1, .slice A' q.length cq1, .slice A'' n c3] w (TakeYes w n fs) := by
  have CM := Lib.hid (refMissing_any A'' rs n c3 w hn (by omega) hrs)
  have hnp : 0 < n := by have := h.len; omega
  go_enter Try.func37, Try.ntmps37
  go_wp2_with fail
  refine CM.out.mono ?_
  rintro e w1 ⟨v1, rfl, hom, hb1⟩
  obtain ⟨Am, cm, rfl, hmc⟩ := hom.rd
  clear CM
  have hbl := below1 w1 (.cells #[.slice A p.length cp1, .slice A' q.length cq1] 32)
  have B1 := hb1.trans (hbl.mono hb1.size)
  have hol := World.ownsRow_lit (base := w1.heap.size) (e := 32) (size := 1) w1 #[.slice A p.length cp1, .slice A' q.length cq1] 2 (Nat.le_refl _) (by unfold maxLen; omega) rfl
  obtain ⟨vs, hv1, hv2, hv3⟩ := ((hrs.below B1 (Nat.le_refl _)).more B1.size).vals
  have Hvl := Lib.hid (show n = vs.length by rw [hv2.1]; exact hn.symm)
  go_upto_block 0 with (at_builtin; refine wpList_append_V rfl _ _ _ rfl w1.heap.size 32 (.slice none 0 0) 24 Try.underlying43 info_row rfl _ 2 [.slice A p.length cp1, .slice A' q.length cq1] rfl hol _ A'' n c3 vs rfl Hvl.out hv1 hv3 (by unfold maxLen; omega) (by omega) (by simp) ?_; intro v2 w2 hown2 hg2 hat2; obtain ⟨Ax, cx, rfl, _, _⟩ := rx_form hown2)
  have b12 : Below w1.heap.size w1 w2 := hbl.grown hg2 (by simp) (fun j hj => by have e3 : w1.heap.size = j := Option.some.inj hj; omega)
  have B2 := Lib.hid (B1.grown hg2 B1.size (fun j hj => by have e3 : w1.heap.size = j := Option.some.inj hj; have := hb1.size; omega))
  have hms : (0 < (missB rs).length → ∃ gm, Am = some ⟨gm, 0, none⟩ ∧ gm < w2.heap.size ∧ ∀ j, j < (missB rs).length → w2.cell? ⟨gm, j, none⟩ = some (.int .i64 (((missB rs).getD j 0 : Nat) : Int))) := fun h5 => by
    obtain ⟨gm, rfl, h6, h7, h8⟩ := hmc h5
    have hlt : gm < w2.heap.size := by have := b12.size; omega
    refine ⟨gm, rfl, hlt, fun j hj => ?_⟩
    rw [b12.cell (p := ⟨gm, j, none⟩) h7]
    exact h8 j hj
  have hxl : ([.slice A p.length cp1, .slice A' q.length cq1] ++ vs : List Value).length = 2 + n := by have := Hvl.out; simp; omega
  have lp : p.length = 0 ∨ p.length = 32 := hp.imp id fun e => by rw [e]; exact pB_len h0 h.alike
  have lq : q.length = 0 ∨ q.length = 32 := hq.imp id fun e => by rw [e]; exact qB_len h0 h.alike
  have hz : ∀ k, k < 2 + n → ∃ (A0 : Option Addr) (len c : Nat), ([.slice A p.length cp1, .slice A' q.length cq1] ++ vs : List Value)[k]? = some (.slice A0 len c) ∧ (len = 0 ∨ len = 32) := fun k hk => by
    match k with
    | 0 => exact ⟨_, _, _, rfl, lp⟩
    | 1 => exact ⟨_, _, _, rfl, lq⟩
    | k + 2 =>
      obtain ⟨A0, c0, h1, _⟩ := hv2.2 k (by omega)
      exact ⟨A0, _, c0, h1, (h.row k (by have := h.len; omega)).imp id fun e => by rw [e]; exact h.full (by have := h.len; omega)⟩
  have HP := Lib.hid ((hpr.below B2.out (Nat.le_refl _)).more B2.out.size)
  have HQ := Lib.hid ((hqr.below B2.out (Nat.le_refl _)).more B2.out.size)
  have HRS := Lib.hid ((hrs.below B2.out (Nat.le_refl _)).more B2.out.size)
  clear hv1 hv2 hv3 hol B1 hbl hb1 hmc hom hg2 hat2 b12 hpr hqr hrs
  refine wp_block ?_
  refine svC _ _ _ _ _ _ _ _ _ _ _ _ _ _ _ _ _ _ _ _ _ _ _ _ _ _ _ _ _ _ _ _ _ _ _ _ _ _ _ _ _ _ _ _ _ _ _ _ _ _ _ _ _ _ _ _ _ _ _ _ _ _ _ _ _ _ _ _ _ _ _ _ _ _ _ _ _ _ _ _ _ _ _ _ _ _ _ _ _ _ _ _ _ _ _ _ _ _ _ _ _ _ _ _ _ _ _ _ _ _ _ _ _ _ _ _ _ _ _ _ _ _ _ _ _ _ _ _ _ _ _ _ _ _ _ _ _ _ _ _ _ _ _ _ _ _ _ _ _ _ _ _ _ _ _ _ _ _ _ _ _ _ _ _ _ _ _ _ _ _ _ _ _ _ _ _ _ _ _ _ _ _ _ _ _ _ _ _ _ _ _ _ _ _ _ _ _ _ _ _ _ _ _ _ _ _ _ _ _ _ _ _ _ _ _ _ hown2 hxl (by omega) hz ⟨Nat.zero_le _, rfl⟩ (fun v8 v9 v13 v34 v35 v36 v37 v38 v39 v40 v41 v42 v43 v44 v45 v46 k V hI hx => ?_)
  obtain ⟨_, rfl⟩ := hI
  clear hown2 hz hx hxl lp lq
  have n1 : ¬ (n : Int) < 1 := by omega
  have n8 : ¬ (8 : Int) < (n : Int) := by omega
  by_cases hp0 : p.length = 0
  · have p0 : ¬ (0 : Int) < (p.length : Int) := by omega
    by_cases hq0 : q.length = 0
    · have q0 : ¬ (0 : Int) < (q.length : Int) := by omega
      have ht : (missB rs).length ≤ 0 := by have h5 := hm; unfold thereB at h5; rw [if_pos hp0, if_pos hq0] at h5; omega
      have t0 : ¬ (0 : Int) < ((missB rs).length : Int) := by omega
      have hm2 : (missB rs).length ≤ (if p.length = 0 then 0 else 1) + (if q.length = 0 then 0 else 1) := hm
      have Hms := Lib.hid hms
      clear hp0 hq0 ht hm
      go_upto_region 15 with fail
      refine svK _ _ _ _ _ _ _ _ _ _ _ _ _ _ _ _ _ _ _ _ _ _ _ _ _ _ _ _ _ _ _ _ _ _ _ _ _ _ _ _ _ _ _ _ _ _ _ _ _ _ _ _ _ _ _ _ _ _ _ _ _ _ _ _ _ _ _ _ _ _ _ _ _ _ _ _ _ _ _ _ _ _ _ _ _ _ _ _ _ _ _ _ _ _ _ _ _ _ _ _ _ _ _ _ _ _ _ _ _ _ _ _ _ _ _ _ _ _ _ _ _ _ _ _ _ _ _ _ _ _ _ _ _ _ _ _ _ _ _ _ _ _ _ _ _ _ _ _ _ _ _ _ _ _ _ _ _ _ _ _ _ _ _ _ _ _ _ _ _ _ _ _ _ _ _ _ _ _ _ _ _ _ _ _ _ _ _ _ _ _ _ _ _ _ _ _ _ _ _ _ _ _ _ _ _ _ _ _ _ _ _ _ _ _ _ _ _ _ _ _ hn8 (fun v75 v76 v77 g V4 hg hV => ?_)
      refine ‹∀ (a : Act) (w : World), Code.wp Try.prog _ _ a w → _› _ _ ?_
      subst hg hV
      have hR0 := rwP_zero V n (filledB 32 rs) (by omega)
      refine svT _ _ _ _ _ _ _ _ _ _ _ _ _ _ _ _ _ _ _ _ _ _ _ _ _ _ _ _ _ _ _ _ _ _ _ _ _ _ _ _ _ _ _ _ _ _ _ _ _ _ _ _ _ _ _ _ _ _ _ _ _ _ _ _ _ _ _ _ _ _ _ _ _ _ _ _ _ _ _ _ _ _ _ _ _ _ _ _ _ _ _ _ _ _ _ _ _ _ _ _ _ _ _ _ _ _ _ _ _ _ _ _ _ _ _ _ _ _ _ _ _ _ _ _ _ _ _ _ _ _ _ _ _ _ _ _ _ _ _ _ _ _ _ _ _ _ _ _ _ _ _ _ _ _ _ _ _ _ _ _ _ _ _ _ _ _ _ _ _ _ _ _ _ _ _ _ _ _ _ _ _ _ _ _ _ _ _ _ _ _ _ _ _ _ _ _ _ _ _ _ _ _ _ _ _ _ _ _ _ _ _ _ _ _ h h0 hn8 (h.len.symm.trans hn) hp hq rfl hm2 HP.out HQ.out Hms.out HRS.out hR0 (below1 V _) (fun v0 v1 v2 v3 v4 v5 v6 v7 v10 v11 v12 v13 v14 v15 v16 v17 v18 v19 v20 v21 v22 v23 v24 v25 v26 v27 v28 v29 v30 v31 v32 v33 v34 v35 v36 v37 v38 v39 v40 v41 v42 v43 v44 v45 v46 v47 v48 v49 v50 v51 v52 v53 v54 v55 v56 v57 v58 v59 v60 v61 v62 v63 v64 v65 v66 v67 v68 v69 v70 v71 v72 v73 v74 v75 v76 v77 v78 v79 v80 v81 v82 v83 v84 v85 v86 v87 v88 v89 v90 v91 v92 v93 v94 v95 v96 v97 v98 v99 v100 v101 v102 v103 v104 v105 v106 v107 v108 v109 v110 v111 v112 v113 v114 v115 v116 v117 v118 v119 v120 v121 v122 v123 v124 v125 v126 v127 v128 v129 v130 v131 v132 v133 v134 v135 v136 v137 v138 v139 v140 v141 v142 v143 v144 v145 v146 v147 v148 v149 v150 v151 v152 v153 v154 v155 v156 v157 v158 v159 v160 v161 v162 v163 v164 v165 v166 v167 v168 v169 v170 v171 v172 v173 v174 v175 v176 v177 v178 v179 v180 v181 v182 v183 v184 v185 v186 v187 v188 v189 v190 v191 v192 v193 v194 v195 v196 v197 v198 v199 v200 v201 v202 v203 v204 v205 v206 v207 v208 v209 v210 v211 v212 v213 v214 v215 v216 v217 v218 bk V9 hR hb => ?_)
      go_ret2
      exact ⟨_, bk, rfl, hR.le B2.out.size, B2.out.trans (hb.mono B2.out.size)⟩
    · have q0 : (0 : Int) < (q.length : Int) := by omega
      have ht : (missB rs).length ≤ 1 := by have h5 := hm; unfold thereB at h5; rw [if_pos hp0, if_neg hq0] at h5; omega
      have t0 : ¬ (1 : Int) < ((missB rs).length : Int) := by omega
      have hm2 : (missB rs).length ≤ (if p.length = 0 then 0 else 1) + (if q.length = 0 then 0 else 1) := hm
      have Hms := Lib.hid hms
      clear hp0 hq0 ht hm
      go_upto_region 15 with fail
      refine svK _ _ _ _ _ _ _ _ _ _ _ _ _ _ _ _ _ _ _ _ _ _ _ _ _ _ _ _ _ _ _ _ _ _ _ _ _ _ _ _ _ _ _ _ _ _ _ _ _ _ _ _ _ _ _ _ _ _ _ _ _ _ _ _ _ _ _ _ _ _ _ _ _ _ _ _ _ _ _ _ _ _ _ _ _ _ _ _ _ _ _ _ _ _ _ _ _ _ _ _ _ _ _ _ _ _ _ _ _ _ _ _ _ _ _ _ _ _ _ _ _ _ _ _ _ _ _ _ _ _ _ _ _ _ _ _ _ _ _ _ _ _ _ _ _ _ _ _ _ _ _ _ _ _ _ _ _ _ _ _ _ _ _ _ _ _ _ _ _ _ _ _ _ _ _ _ _ _ _ _ _ _ _ _ _ _ _ _ _ _ _ _ _ _ _ _ _ _ _ _ _ _ _ _ _ _ _ _ _ _ _ _ _ _ _ _ _ _ _ _ hn8 (fun v75 v76 v77 g V4 hg hV => ?_)
      refine ‹∀ (a : Act) (w : World), Code.wp Try.prog _ _ a w → _› _ _ ?_
      subst hg hV
      have hR0 := rwP_zero V n (filledB 32 rs) (by omega)
      refine svT _ _ _ _ _ _ _ _ _ _ _ _ _ _ _ _ _ _ _ _ _ _ _ _ _ _ _ _ _ _ _ _ _ _ _ _ _ _ _ _ _ _ _ _ _ _ _ _ _ _ _ _ _ _ _ _ _ _ _ _ _ _ _ _ _ _ _ _ _ _ _ _ _ _ _ _ _ _ _ _ _ _ _ _ _ _ _ _ _ _ _ _ _ _ _ _ _ _ _ _ _ _ _ _ _ _ _ _ _ _ _ _ _ _ _ _ _ _ _ _ _ _ _ _ _ _ _ _ _ _ _ _ _ _ _ _ _ _ _ _ _ _ _ _ _ _ _ _ _ _ _ _ _ _ _ _ _ _ _ _ _ _ _ _ _ _ _ _ _ _ _ _ _ _ _ _ _ _ _ _ _ _ _ _ _ _ _ _ _ _ _ _ _ _ _ _ _ _ _ _ _ _ _ _ _ _ _ _ _ _ _ _ _ _ h h0 hn8 (h.len.symm.trans hn) hp hq rfl hm2 HP.out HQ.out Hms.out HRS.out hR0 (below1 V _) (fun v0 v1 v2 v3 v4 v5 v6 v7 v10 v11 v12 v13 v14 v15 v16 v17 v18 v19 v20 v21 v22 v23 v24 v25 v26 v27 v28 v29 v30 v31 v32 v33 v34 v35 v36 v37 v38 v39 v40 v41 v42 v43 v44 v45 v46 v47 v48 v49 v50 v51 v52 v53 v54 v55 v56 v57 v58 v59 v60 v61 v62 v63 v64 v65 v66 v67 v68 v69 v70 v71 v72 v73 v74 v75 v76 v77 v78 v79 v80 v81 v82 v83 v84 v85 v86 v87 v88 v89 v90 v91 v92 v93 v94 v95 v96 v97 v98 v99 v100 v101 v102 v103 v104 v105 v106 v107 v108 v109 v110 v111 v112 v113 v114 v115 v116 v117 v118 v119 v120 v121 v122 v123 v124 v125 v126 v127 v128 v129 v130 v131 v132 v133 v134 v135 v136 v137 v138 v139 v140 v141 v142 v143 v144 v145 v146 v147 v148 v149 v150 v151 v152 v153 v154 v155 v156 v157 v158 v159 v160 v161 v162 v163 v164 v165 v166 v167 v168 v169 v170 v171 v172 v173 v174 v175 v176 v177 v178 v179 v180 v181 v182 v183 v184 v185 v186 v187 v188 v189 v190 v191 v192 v193 v194 v195 v196 v197 v198 v199 v200 v201 v202 v203 v204 v205 v206 v207 v208 v209 v210 v211 v212 v213 v214 v215 v216 v217 v218 bk V9 hR hb => ?_)
      go_ret2
      exact ⟨_, bk, rfl, hR.le B2.out.size, B2.out.trans (hb.mono B2.out.size)⟩
  · have p0 : (0 : Int) < (p.length : Int) := by omega
    by_cases hq0 : q.length = 0
    · have q0 : ¬ (0 : Int) < (q.length : Int) := by omega
      have ht : (missB rs).length ≤ 1 := by have h5 := hm; unfold thereB at h5; rw [if_neg hp0, if_pos hq0] at h5; omega
      have t0 : ¬ (1 : Int) < ((missB rs).length : Int) := by omega
      have hm2 : (missB rs).length ≤ (if p.length = 0 then 0 else 1) + (if q.length = 0 then 0 else 1) := hm
      have Hms := Lib.hid hms
      clear hp0 hq0 ht hm
      go_upto_region 15 with fail
      refine svK _ _ _ _ _ _ _ _ _ _ _ _ _ _ _ _ _ _ _ _ _ _ _ _ _ _ _ _ _ _ _ _ _ _ _ _ _ _ _ _ _ _ _ _ _ _ _ _ _ _ _ _ _ _ _ _ _ _ _ _ _ _ _ _ _ _ _ _ _ _ _ _ _ _ _ _ _ _ _ _ _ _ _ _ _ _ _ _ _ _ _ _ _ _ _ _ _ _ _ _ _ _ _ _ _ _ _ _ _ _ _ _ _ _ _ _ _ _ _ _ _ _ _ _ _ _ _ _ _ _ _ _ _ _ _ _ _ _ _ _ _ _ _ _ _ _ _ _ _ _ _ _ _ _ _ _ _ _ _ _ _ _ _ _ _ _ _ _ _ _ _ _ _ _ _ _ _ _ _ _ _ _ _ _ _ _ _ _ _ _ _ _ _ _ _ _ _ _ _ _ _ _ _ _ _ _ _ _ _ _ _ _ _ _ _ _ _ _ _ _ hn8 (fun v75 v76 v77 g V4 hg hV => ?_)
      refine ‹∀ (a : Act) (w : World), Code.wp Try.prog _ _ a w → _› _ _ ?_
      subst hg hV
      have hR0 := rwP_zero V n (filledB 32 rs) (by omega)
      refine svT _ _ _ _ _ _ _ _ _ _ _ _ _ _ _ _ _ _ _ _ _ _ _ _ _ _ _ _ _ _ _ _ _ _ _ _ _ _ _ _ _ _ _ _ _ _ _ _ _ _ _ _ _ _ _ _ _ _ _ _ _ _ _ _ _ _ _ _ _ _ _ _ _ _ _ _ _ _ _ _ _ _ _ _ _ _ _ _ _ _ _ _ _ _ _ _ _ _ _ _ _ _ _ _ _ _ _ _ _ _ _ _ _ _ _ _ _ _ _ _ _ _ _ _ _ _ _ _ _ _ _ _ _ _ _ _ _ _ _ _ _ _ _ _ _ _ _ _ _ _ _ _ _ _ _ _ _ _ _ _ _ _ _ _ _ _ _ _ _ _ _ _ _ _ _ _ _ _ _ _ _ _ _ _ _ _ _ _ _ _ _ _ _ _ _ _ _ _ _ _ _ _ _ _ _ _ _ _ _ _ _ _ _ _ h h0 hn8 (h.len.symm.trans hn) hp hq rfl hm2 HP.out HQ.out Hms.out HRS.out hR0 (below1 V _) (fun v0 v1 v2 v3 v4 v5 v6 v7 v10 v11 v12 v13 v14 v15 v16 v17 v18 v19 v20 v21 v22 v23 v24 v25 v26 v27 v28 v29 v30 v31 v32 v33 v34 v35 v36 v37 v38 v39 v40 v41 v42 v43 v44 v45 v46 v47 v48 v49 v50 v51 v52 v53 v54 v55 v56 v57 v58 v59 v60 v61 v62 v63 v64 v65 v66 v67 v68 v69 v70 v71 v72 v73 v74 v75 v76 v77 v78 v79 v80 v81 v82 v83 v84 v85 v86 v87 v88 v89 v90 v91 v92 v93 v94 v95 v96 v97 v98 v99 v100 v101 v102 v103 v104 v105 v106 v107 v108 v109 v110 v111 v112 v113 v114 v115 v116 v117 v118 v119 v120 v121 v122 v123 v124 v125 v126 v127 v128 v129 v130 v131 v132 v133 v134 v135 v136 v137 v138 v139 v140 v141 v142 v143 v144 v145 v146 v147 v148 v149 v150 v151 v152 v153 v154 v155 v156 v157 v158 v159 v160 v161 v162 v163 v164 v165 v166 v167 v168 v169 v170 v171 v172 v173 v174 v175 v176 v177 v178 v179 v180 v181 v182 v183 v184 v185 v186 v187 v188 v189 v190 v191 v192 v193 v194 v195 v196 v197 v198 v199 v200 v201 v202 v203 v204 v205 v206 v207 v208 v209 v210 v211 v212 v213 v214 v215 v216 v217 v218 bk V9 hR hb => ?_)
      go_ret2
      exact ⟨_, bk, rfl, hR.le B2.out.size, B2.out.trans (hb.mono B2.out.size)⟩
    · have q0 : (0 : Int) < (q.length : Int) := by omega
      have ht : (missB rs).length ≤ 2 := by have h5 := hm; unfold thereB at h5; rw [if_neg hp0, if_neg hq0] at h5; omega
      have t0 : ¬ (2 : Int) < ((missB rs).length : Int) := by omega
      have hm2 : (missB rs).length ≤ (if p.length = 0 then 0 else 1) + (if q.length = 0 then 0 else 1) := hm
      have Hms := Lib.hid hms
      clear hp0 hq0 ht hm
      go_upto_region 15 with fail
      refine svK _ _ _ _ _ _ _ _ _ _ _ _ _ _ _ _ _ _ _ _ _ _ _ _ _ _ _ _ _ _ _ _ _ _ _ _ _ _ _ _ _ _ _ _ _ _ _ _ _ _ _ _ _ _ _ _ _ _ _ _ _ _ _ _ _ _ _ _ _ _ _ _ _ _ _ _ _ _ _ _ _ _ _ _ _ _ _ _ _ _ _ _ _ _ _ _ _ _ _ _ _ _ _ _ _ _ _ _ _ _ _ _ _ _ _ _ _ _ _ _ _ _ _ _ _ _ _ _ _ _ _ _ _ _ _ _ _ _ _ _ _ _ _ _ _ _ _ _ _ _ _ _ _ _ _ _ _ _ _ _ _ _ _ _ _ _ _ _ _ _ _ _ _ _ _ _ _ _ _ _ _ _ _ _ _ _ _ _ _ _ _ _ _ _ _ _ _ _ _ _ _ _ _ _ _ _ _ _ _ _ _ _ _ _ _ _ _ _ _ _ hn8 (fun v75 v76 v77 g V4 hg hV => ?_)
      refine ‹∀ (a : Act) (w : World), Code.wp Try.prog _ _ a w → _› _ _ ?_
      subst hg hV
      have hR0 := rwP_zero V n (filledB 32 rs) (by omega)
      refine svT _ _ _ _ _ _ _ _ _ _ _ _ _ _ _ _ _ _ _ _ _ _ _ _ _ _ _ _ _ _ _ _ _ _ _ _ _ _ _ _ _ _ _ _ _ _ _ _ _ _ _ _ _ _ _ _ _ _ _ _ _ _ _ _ _ _ _ _ _ _ _ _ _ _ _ _ _ _ _ _ _ _ _ _ _ _ _ _ _ _ _ _ _ _ _ _ _ _ _ _ _ _ _ _ _ _ _ _ _ _ _ _ _ _ _ _ _ _ _ _ _ _ _ _ _ _ _ _ _ _ _ _ _ _ _ _ _ _ _ _ _ _ _ _ _ _ _ _ _ _ _ _ _ _ _ _ _ _ _ _ _ _ _ _ _ _ _ _ _ _ _ _ _ _ _ _ _ _ _ _ _ _ _ _ _ _ _ _ _ _ _ _ _ _ _ _ _ _ _ _ _ _ _ _ _ _ _ _ _ _ _ _ _ _ h h0 hn8 (h.len.symm.trans hn) hp hq rfl hm2 HP.out HQ.out Hms.out HRS.out hR0 (below1 V _) (fun v0 v1 v2 v3 v4 v5 v6 v7 v10 v11 v12 v13 v14 v15 v16 v17 v18 v19 v20 v21 v22 v23 v24 v25 v26 v27 v28 v29 v30 v31 v32 v33 v34 v35 v36 v37 v38 v39 v40 v41 v42 v43 v44 v45 v46 v47 v48 v49 v50 v51 v52 v53 v54 v55 v56 v57 v58 v59 v60 v61 v62 v63 v64 v65 v66 v67 v68 v69 v70 v71 v72 v73 v74 v75 v76 v77 v78 v79 v80 v81 v82 v83 v84 v85 v86 v87 v88 v89 v90 v91 v92 v93 v94 v95 v96 v97 v98 v99 v100 v101 v102 v103 v104 v105 v106 v107 v108 v109 v110 v111 v112 v113 v114 v115 v116 v117 v118 v119 v120 v121 v122 v123 v124 v125 v126 v127 v128 v129 v130 v131 v132 v133 v134 v135 v136 v137 v138 v139 v140 v141 v142 v143 v144 v145 v146 v147 v148 v149 v150 v151 v152 v153 v154 v155 v156 v157 v158 v159 v160 v161 v162 v163 v164 v165 v166 v167 v168 v169 v170 v171 v172 v173 v174 v175 v176 v177 v178 v179 v180 v181 v182 v183 v184 v185 v186 v187 v188 v189 v190 v191 v192 v193 v194 v195 v196 v197 v198 v199 v200 v201 v202 v203 v204 v205 v206 v207 v208 v209 v210 v211 v212 v213 v214 v215 v216 v217 v218 bk V9 hR hb => ?_)
      go_ret2
      exact ⟨_, bk, rfl, hR.le B2.out.size, B2.out.trans (hb.mono B2.out.size)⟩
end Go.Proofs.Ytenkkdnepmoihaa
end
