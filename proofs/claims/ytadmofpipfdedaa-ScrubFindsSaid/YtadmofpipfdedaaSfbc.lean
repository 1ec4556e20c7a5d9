/- Texts put together: RbdBoth. -/
import Derived.Test.YtadmofpipfdedaaSfbb
import Derived.Test.YtadmofpipfdedaaSfaz
section
set_option linter.unusedVariables false
set_option linter.unusedSimpArgs false
namespace Go.Proofs.Ytadmofpipfdedaa
open Go.RowKit

noncomputable def codeBo : Code := Try.f12.body.getD .skip
set_option maxRecDepth 100000 in
set_option maxHeartbeats 3200000 in
theorem boIb {W0 : World} {m D b g s : Nat} {KK : List (Nat × Obj)} {fl : Nat → List (List UInt8)} {j : Nat} {H : BH} {N : Bch} {w : World} (u0 u1 u2 u4 u5 u6 u7 u8 u9 u10 u12 u14 u18 u19 u20 u21 u22 u23 u24 u25 u26 u27 u28 u29 u30 u31 u32 u33 u34 u35 u36 u37 u38 u39 u40 u41 u42 u43 u44 u45 u46 u47 u48 u49 u50 u51 u52 u53 u54 u55 u56 u57 u58 u59 u60 u61 u62 u63 u64 u65 u66 u67 u68 u69 u70 u71 u72 u73 u74 u75 u76 : Value) (K : Act → World → Prop) (Q0 : Exit → Act → World → Prop) (hs : s < 16) (hD : D ≤ m) (hm : m ≤ 8) (hln : (fl s).length = D) (h32 : ∀ i, i < D → ((fl s).getD i []).length = 32) (hI : (j ≤ D ∧ KS W0 w b H N KK [(some ⟨g, 0, none⟩, fl s)] [] ∧ Fb N m fl s j))
    (hK : ∀ (v53 v54 v55 v56 v57 v58 v59 v60 v61 v62 v63 v64 v65 v66 v67 v68 v69 v70 v71 v72 v73 v74 v75 : Value) (H2 : BH) (N2 : Bch) (V : World), ((j + 1) ≤ D ∧ KS W0 V b H2 N2 KK [(some ⟨g, 0, none⟩, fl s)] [] ∧ Fb N2 m fl s (j + 1)) → D - (j + 1) < D - j → K ⟨List.toArray (u0 :: u1 :: u2 :: (.int .i64 (m : Int)) :: u4 :: u5 :: u6 :: u7 :: u8 :: u9 :: u10 :: (.pointer (some ⟨b, 0, none⟩)) :: u12 :: (.int .i64 (s : Int)) :: u14 :: (.slice (some ⟨g, 0, none⟩) D D) :: (.bool true) :: (.int .i64 (((j + 1) : Nat) : Int)) :: u18 :: u19 :: u20 :: u21 :: u22 :: u23 :: u24 :: u25 :: u26 :: u27 :: u28 :: u29 :: u30 :: u31 :: u32 :: u33 :: u34 :: u35 :: u36 :: u37 :: u38 :: u39 :: u40 :: u41 :: u42 :: u43 :: u44 :: u45 :: u46 :: u47 :: u48 :: u49 :: u50 :: u51 :: u52 :: v53 :: v54 :: v55 :: v56 :: v57 :: v58 :: v59 :: v60 :: v61 :: v62 :: v63 :: v64 :: v65 :: v66 :: v67 :: v68 :: v69 :: v70 :: v71 :: v72 :: v73 :: v74 :: v75 :: u76 :: []), []⟩ V)
    (hX : ∀ (v53 v54 v55 v56 v57 v58 v59 v60 v61 v62 v63 v64 v65 v66 v67 v68 v69 v70 v71 v72 v73 v74 v75 : Value), (j = D) → Q0 (.exit 2) ⟨List.toArray (u0 :: u1 :: u2 :: (.int .i64 (m : Int)) :: u4 :: u5 :: u6 :: u7 :: u8 :: u9 :: u10 :: (.pointer (some ⟨b, 0, none⟩)) :: u12 :: (.int .i64 (s : Int)) :: u14 :: (.slice (some ⟨g, 0, none⟩) D D) :: (.bool true) :: (.int .i64 ((j : Nat) : Int)) :: u18 :: u19 :: u20 :: u21 :: u22 :: u23 :: u24 :: u25 :: u26 :: u27 :: u28 :: u29 :: u30 :: u31 :: u32 :: u33 :: u34 :: u35 :: u36 :: u37 :: u38 :: u39 :: u40 :: u41 :: u42 :: u43 :: u44 :: u45 :: u46 :: u47 :: u48 :: u49 :: u50 :: u51 :: u52 :: v53 :: v54 :: v55 :: v56 :: v57 :: v58 :: v59 :: v60 :: v61 :: v62 :: v63 :: v64 :: v65 :: v66 :: v67 :: v68 :: v69 :: v70 :: v71 :: v72 :: v73 :: v74 :: v75 :: u76 :: []), []⟩ w) :
    Code.wp Try.prog (sub [1, 1, 1, 0, 1, 0, 0, 1, 0, 0, 1, 1, 1, 1, 0, 0] codeBo) (Exit.then K Q0) ⟨List.toArray (u0 :: u1 :: u2 :: (.int .i64 (m : Int)) :: u4 :: u5 :: u6 :: u7 :: u8 :: u9 :: u10 :: (.pointer (some ⟨b, 0, none⟩)) :: u12 :: (.int .i64 (s : Int)) :: u14 :: (.slice (some ⟨g, 0, none⟩) D D) :: (.bool true) :: (.int .i64 ((j : Nat) : Int)) :: u18 :: u19 :: u20 :: u21 :: u22 :: u23 :: u24 :: u25 :: u26 :: u27 :: u28 :: u29 :: u30 :: u31 :: u32 :: u33 :: u34 :: u35 :: u36 :: u37 :: u38 :: u39 :: u40 :: u41 :: u42 :: u43 :: u44 :: u45 :: u46 :: u47 :: u48 :: u49 :: u50 :: u51 :: u52 :: u53 :: u54 :: u55 :: u56 :: u57 :: u58 :: u59 :: u60 :: u61 :: u62 :: u63 :: u64 :: u65 :: u66 :: u67 :: u68 :: u69 :: u70 :: u71 :: u72 :: u73 :: u74 :: u75 :: u76 :: []), []⟩ w := by
  have HK := Lib.hid hK
  have HX := Lib.hid hX
  clear hK hX
  conv => arg 2; whnf
  obtain ⟨hj, hk, hf⟩ := hI
  have Hk := Lib.hid hk
  have Hf := Lib.hid hf
  by_cases hlt : j < D
  · have i0 : (0 : Int) ≤ (j : Int) := by omega
    have i1 : (j : Int) < (D : Int) := by omega
    have i2 : (j : Int) < (m : Int) := by omega
    have h32j := h32 j hlt
    obtain ⟨b', off, A', c', e, h1, h2⟩ := (hk.rx _ (List.mem_cons_self ..)).at (k := j) (by show j < (fl s).length; omega)
    injection e with e
    injection e with e2 e3 _
    subst e2 e3
    dsimp only at h1 h2
    rw [Nat.zero_add, h32j] at h1
    have Hst := Lib.hid (fb_damage hf (by omega) hs (by rw [hln]; exact hlt) h32j)
    have CD := ks_damage hk (j : Int) (36 + (s : Int)) ((fl s).getD j []) A' 32 c' h32j.symm ⟨by omega, by omega⟩ ⟨by omega, by omega⟩ h2.rdb (fun i hi => by rw [hf.gd.ps i (by rw [hf.gd.n] at hi; exact hi)]; exact Nat.zero_le _)
    rw [show (36 + (s : Int)) = ((36 + s : Nat) : Int) by omega] at CD
    generalize (fl s).getD j [] = x at CD Hst
    obtain ⟨N2, hN2⟩ : ∃ N2, N.damage (j : Int) ((36 + s : Nat) : Int) x = N2 := ⟨_, rfl⟩
    rw [hN2] at CD Hst
    rw [show ((36 + s : Nat) : Int) = 36 + (s : Int) by omega] at CD
    have CD := Lib.hid CD
    clear HX hk hf hN2 h2 h32j h32 hln
    go_wp2_with fail
    (with_reducible refine CD.out.mono ?_); rintro e w1 ⟨rfl, H2, k2⟩
    have K2 := Lib.hid k2
    clear k2
    go_wp2_with fail
    exact HK.out _ _ _ _ _ _ _ _ _ _ _ _ _ _ _ _ _ _ _ _ _ _ _ H2 N2 _ ⟨by omega, K2.out, Hst.out⟩ (by omega)
  · have i1 : ¬ (j : Int) < (D : Int) := by omega
    have Hin := Lib.hid (show j = D by omega)
    clear HK hk hf
    go_wp2_with fail
    exact HX.out _ _ _ _ _ _ _ _ _ _ _ _ _ _ _ _ _ _ _ _ _ _ _ Hin.out
set_option maxRecDepth 100000 in
set_option maxHeartbeats 3200000 in
theorem boI {W0 : World} {m D b g s : Nat} {KK : List (Nat × Obj)} {fl : Nat → List (List UInt8)} {H0 : BH} {N0 : Bch} {w : World} (u0 u1 u2 u4 u5 u6 u7 u8 u9 u10 u12 u14 u18 u19 u20 u21 u22 u23 u24 u25 u26 u27 u28 u29 u30 u31 u32 u33 u34 u35 u36 u37 u38 u39 u40 u41 u42 u43 u44 u45 u46 u47 u48 u49 u50 u51 u52 u53 u54 u55 u56 u57 u58 u59 u60 u61 u62 u63 u64 u65 u66 u67 u68 u69 u70 u71 u72 u73 u74 u75 u76 : Value) (Q : Exit → Act → World → Prop) (hs : s < 16) (hD : D ≤ m) (hm : m ≤ 8) (hln : (fl s).length = D) (h32 : ∀ i, i < D → ((fl s).getD i []).length = 32) (hI : (0 ≤ D ∧ KS W0 w b H0 N0 KK [(some ⟨g, 0, none⟩, fl s)] [] ∧ Fb N0 m fl s 0))
    (hX : ∀ (v53 v54 v55 v56 v57 v58 v59 v60 v61 v62 v63 v64 v65 v66 v67 v68 v69 v70 v71 v72 v73 v74 v75 : Value) (j : Nat) (H : BH) (N : Bch) (V : World), (j ≤ D ∧ KS W0 V b H N KK [(some ⟨g, 0, none⟩, fl s)] [] ∧ Fb N m fl s j) → (j = D) → Q (.exit 2) ⟨List.toArray (u0 :: u1 :: u2 :: (.int .i64 (m : Int)) :: u4 :: u5 :: u6 :: u7 :: u8 :: u9 :: u10 :: (.pointer (some ⟨b, 0, none⟩)) :: u12 :: (.int .i64 (s : Int)) :: u14 :: (.slice (some ⟨g, 0, none⟩) D D) :: (.bool true) :: (.int .i64 ((j : Nat) : Int)) :: u18 :: u19 :: u20 :: u21 :: u22 :: u23 :: u24 :: u25 :: u26 :: u27 :: u28 :: u29 :: u30 :: u31 :: u32 :: u33 :: u34 :: u35 :: u36 :: u37 :: u38 :: u39 :: u40 :: u41 :: u42 :: u43 :: u44 :: u45 :: u46 :: u47 :: u48 :: u49 :: u50 :: u51 :: u52 :: v53 :: v54 :: v55 :: v56 :: v57 :: v58 :: v59 :: v60 :: v61 :: v62 :: v63 :: v64 :: v65 :: v66 :: v67 :: v68 :: v69 :: v70 :: v71 :: v72 :: v73 :: v74 :: v75 :: u76 :: []), []⟩ V) :
    Code.wp Try.prog (.loop (sub [1, 1, 1, 0, 1, 0, 0, 1, 0, 0, 1, 1, 1, 1, 0, 0] codeBo)) Q ⟨List.toArray (u0 :: u1 :: u2 :: (.int .i64 (m : Int)) :: u4 :: u5 :: u6 :: u7 :: u8 :: u9 :: u10 :: (.pointer (some ⟨b, 0, none⟩)) :: u12 :: (.int .i64 (s : Int)) :: u14 :: (.slice (some ⟨g, 0, none⟩) D D) :: (.bool true) :: (.int .i64 ((0 : Nat) : Int)) :: u18 :: u19 :: u20 :: u21 :: u22 :: u23 :: u24 :: u25 :: u26 :: u27 :: u28 :: u29 :: u30 :: u31 :: u32 :: u33 :: u34 :: u35 :: u36 :: u37 :: u38 :: u39 :: u40 :: u41 :: u42 :: u43 :: u44 :: u45 :: u46 :: u47 :: u48 :: u49 :: u50 :: u51 :: u52 :: u53 :: u54 :: u55 :: u56 :: u57 :: u58 :: u59 :: u60 :: u61 :: u62 :: u63 :: u64 :: u65 :: u66 :: u67 :: u68 :: u69 :: u70 :: u71 :: u72 :: u73 :: u74 :: u75 :: u76 :: []), []⟩ w := by
  refine wp_loop_ghost (fun gk a V => ∀ C : Prop, (∀ (u53 u54 u55 u56 u57 u58 u59 u60 u61 u62 u63 u64 u65 u66 u67 u68 u69 u70 u71 u72 u73 u74 u75 : Value) (j : Nat) (H : BH) (N : Bch), gk = D - j → (j ≤ D ∧ KS W0 V b H N KK [(some ⟨g, 0, none⟩, fl s)] [] ∧ Fb N m fl s j) → a = ⟨List.toArray (u0 :: u1 :: u2 :: (.int .i64 (m : Int)) :: u4 :: u5 :: u6 :: u7 :: u8 :: u9 :: u10 :: (.pointer (some ⟨b, 0, none⟩)) :: u12 :: (.int .i64 (s : Int)) :: u14 :: (.slice (some ⟨g, 0, none⟩) D D) :: (.bool true) :: (.int .i64 ((j : Nat) : Int)) :: u18 :: u19 :: u20 :: u21 :: u22 :: u23 :: u24 :: u25 :: u26 :: u27 :: u28 :: u29 :: u30 :: u31 :: u32 :: u33 :: u34 :: u35 :: u36 :: u37 :: u38 :: u39 :: u40 :: u41 :: u42 :: u43 :: u44 :: u45 :: u46 :: u47 :: u48 :: u49 :: u50 :: u51 :: u52 :: u53 :: u54 :: u55 :: u56 :: u57 :: u58 :: u59 :: u60 :: u61 :: u62 :: u63 :: u64 :: u65 :: u66 :: u67 :: u68 :: u69 :: u70 :: u71 :: u72 :: u73 :: u74 :: u75 :: u76 :: []), []⟩ → C) → C) (D - 0) ?_ ?_
  · intro C hC
    exact hC _ _ _ _ _ _ _ _ _ _ _ _ _ _ _ _ _ _ _ _ _ _ _ (0) (H0) (N0) rfl hI rfl
  · intro gk a V hI'
    refine hI' _ ?_
    intro u53 u54 u55 u56 u57 u58 u59 u60 u61 u62 u63 u64 u65 u66 u67 u68 u69 u70 u71 u72 u73 u74 u75 j H N hk hinv ha
    subst ha
    subst hk
    refine boIb _ _ _ _ _ _ _ _ _ _ _ _ _ _ _ _ _ _ _ _ _ _ _ _ _ _ _ _ _ _ _ _ _ _ _ _ _ _ _ _ _ _ _ _ _ _ _ _ _ _ _ _ _ _ _ _ _ _ _ _ _ _ _ _ _ _ _ _ _ _ _ _ _ hs hD hm hln h32 hinv (fun v53 v54 v55 v56 v57 v58 v59 v60 v61 v62 v63 v64 v65 v66 v67 v68 v69 v70 v71 v72 v73 v74 v75 H2 N2 V2 h2 hm => ?_) (fun v53 v54 v55 v56 v57 v58 v59 v60 v61 v62 v63 v64 v65 v66 v67 v68 v69 v70 v71 v72 v73 v74 v75 hx => hX v53 v54 v55 v56 v57 v58 v59 v60 v61 v62 v63 v64 v65 v66 v67 v68 v69 v70 v71 v72 v73 v74 v75 j H N V hinv hx)
    refine ⟨_, hm, fun C hC => ?_⟩
    exact hC v53 v54 v55 v56 v57 v58 v59 v60 v61 v62 v63 v64 v65 v66 v67 v68 v69 v70 v71 v72 v73 v74 v75 ((j + 1)) (H2) (N2) rfl h2 rfl
set_option maxRecDepth 100000 in
set_option maxHeartbeats 3200000 in
theorem boOb {W0 : World} {G : RG} {m b ga gt cp : Nat} {A : Option Addr} {zs : List Int} {s : Nat} {H : BH} {N : Bch} {w : World} (u0 u1 u7 u8 u9 u10 u12 u14 u15 u16 u17 u18 u19 u20 u21 u22 u23 u24 u25 u26 u27 u28 u29 u30 u31 u32 u33 u34 u35 u36 u37 u38 u39 u40 u41 u42 u43 u44 u45 u46 u47 u48 u49 u50 u51 u52 u53 u54 u55 u56 u57 u58 u59 u60 u61 u62 u63 u64 u65 u66 u67 u68 u69 u70 u71 u72 u73 u74 u75 u76 : Value) (K : Act → World → Prop) (Q0 : Exit → Act → World → Prop) (hG : G.ok = true) (hs64 : -9223372036854775808 ≤ G.s ∧ G.s ≤ 9223372036854775807) (hD : ∀ t, t < 16 → G.D t ≤ (m : Int)) (hm : m ≤ 8) (hz : RdZ W0 W0.heap.size A zs) (hcp : zs.length ≤ cp) (hI : (s ≤ 16 ∧ KS W0 w b H N [(ga, Obj.cells #[.int .i64 G.l, .int .i64 G.d, .int .i64 G.c] 25 (0, 0)), (gt, Obj.cells #[.int .i64 G.l', .int .i64 G.d', .int .i64 G.c'] 25 (0, 0))] [] [] ∧ Fb N m (rowG G zs) s 0))
    (hK : ∀ (v14 v15 v16 v17 v29 v30 v31 v32 v33 v34 v35 v36 v37 v38 v39 v40 v41 v42 v43 v44 v45 v46 v47 v48 v49 v50 v51 v52 v53 v54 v55 v56 v57 v58 v59 v60 v61 v62 v63 v64 v65 v66 v67 v68 v69 v70 v71 v72 v73 v74 v75 : Value) (H2 : BH) (N2 : Bch) (V : World), ((s + 1) ≤ 16 ∧ KS W0 V b H2 N2 [(ga, Obj.cells #[.int .i64 G.l, .int .i64 G.d, .int .i64 G.c] 25 (0, 0)), (gt, Obj.cells #[.int .i64 G.l', .int .i64 G.d', .int .i64 G.c'] 25 (0, 0))] [] [] ∧ Fb N2 m (rowG G zs) (s + 1) 0) → 16 - (s + 1) < 16 - s → K ⟨List.toArray (u0 :: u1 :: (.int .i64 G.s) :: (.int .i64 (m : Int)) :: (.slice A zs.length cp) :: (.pointer (some ⟨ga, 0, none⟩)) :: (.pointer (some ⟨gt, 0, none⟩)) :: u7 :: u8 :: u9 :: u10 :: (.pointer (some ⟨b, 0, none⟩)) :: u12 :: (.int .i64 (((s + 1) : Nat) : Int)) :: v14 :: v15 :: v16 :: v17 :: u18 :: u19 :: u20 :: u21 :: u22 :: u23 :: u24 :: u25 :: u26 :: u27 :: u28 :: v29 :: v30 :: v31 :: v32 :: v33 :: v34 :: v35 :: v36 :: v37 :: v38 :: v39 :: v40 :: v41 :: v42 :: v43 :: v44 :: v45 :: v46 :: v47 :: v48 :: v49 :: v50 :: v51 :: v52 :: v53 :: v54 :: v55 :: v56 :: v57 :: v58 :: v59 :: v60 :: v61 :: v62 :: v63 :: v64 :: v65 :: v66 :: v67 :: v68 :: v69 :: v70 :: v71 :: v72 :: v73 :: v74 :: v75 :: u76 :: []), []⟩ V)
    (hX : ∀ (v14 v15 v16 v17 v29 v30 v31 v32 v33 v34 v35 v36 v37 v38 v39 v40 v41 v42 v43 v44 v45 v46 v47 v48 v49 v50 v51 v52 v53 v54 v55 v56 v57 v58 v59 v60 v61 v62 v63 v64 v65 v66 v67 v68 v69 v70 v71 v72 v73 v74 v75 : Value), (s = 16) → Q0 (.exit 0) ⟨List.toArray (u0 :: u1 :: (.int .i64 G.s) :: (.int .i64 (m : Int)) :: (.slice A zs.length cp) :: (.pointer (some ⟨ga, 0, none⟩)) :: (.pointer (some ⟨gt, 0, none⟩)) :: u7 :: u8 :: u9 :: u10 :: (.pointer (some ⟨b, 0, none⟩)) :: u12 :: (.int .i64 ((s : Nat) : Int)) :: v14 :: v15 :: v16 :: v17 :: u18 :: u19 :: u20 :: u21 :: u22 :: u23 :: u24 :: u25 :: u26 :: u27 :: u28 :: v29 :: v30 :: v31 :: v32 :: v33 :: v34 :: v35 :: v36 :: v37 :: v38 :: v39 :: v40 :: v41 :: v42 :: v43 :: v44 :: v45 :: v46 :: v47 :: v48 :: v49 :: v50 :: v51 :: v52 :: v53 :: v54 :: v55 :: v56 :: v57 :: v58 :: v59 :: v60 :: v61 :: v62 :: v63 :: v64 :: v65 :: v66 :: v67 :: v68 :: v69 :: v70 :: v71 :: v72 :: v73 :: v74 :: v75 :: u76 :: []), []⟩ w) :
    Code.wp Try.prog (sub [1, 1, 1, 0, 1, 0, 0] codeBo) (Exit.then K Q0) ⟨List.toArray (u0 :: u1 :: (.int .i64 G.s) :: (.int .i64 (m : Int)) :: (.slice A zs.length cp) :: (.pointer (some ⟨ga, 0, none⟩)) :: (.pointer (some ⟨gt, 0, none⟩)) :: u7 :: u8 :: u9 :: u10 :: (.pointer (some ⟨b, 0, none⟩)) :: u12 :: (.int .i64 ((s : Nat) : Int)) :: u14 :: u15 :: u16 :: u17 :: u18 :: u19 :: u20 :: u21 :: u22 :: u23 :: u24 :: u25 :: u26 :: u27 :: u28 :: u29 :: u30 :: u31 :: u32 :: u33 :: u34 :: u35 :: u36 :: u37 :: u38 :: u39 :: u40 :: u41 :: u42 :: u43 :: u44 :: u45 :: u46 :: u47 :: u48 :: u49 :: u50 :: u51 :: u52 :: u53 :: u54 :: u55 :: u56 :: u57 :: u58 :: u59 :: u60 :: u61 :: u62 :: u63 :: u64 :: u65 :: u66 :: u67 :: u68 :: u69 :: u70 :: u71 :: u72 :: u73 :: u74 :: u75 :: u76 :: []), []⟩ w := by
  have HK := Lib.hid hK
  have HX := Lib.hid hX
  clear hK hX
  conv => arg 2; whnf
  obtain ⟨hs, hk, hf⟩ := hI
  have Hk := Lib.hid hk
  have Hf := Lib.hid hf
  by_cases hlt : s < 16
  · have hs16 := hlt
    have i0 : (0 : Int) ≤ (s : Int) := by omega
    have i1 : (s : Int) < 16 := by omega
    have HX0 : (∀ r, (G.L r = rg G.s G.l G.l' r ∧ G.D r = rg G.s G.d G.d' r) ∧ G.C r = rg G.s G.c G.c' r) := fun r => ⟨⟨rfl, rfl⟩, rfl⟩
    have HL := Lib.hid (HX0 s).1.1
    have HD := Lib.hid (HX0 s).1.2
    have HC := Lib.hid (HX0 s).2
    obtain ⟨D, hDs, gr⟩ := RG.gr hG hlt
    have hDm := hD s hlt
    rw [hDs] at hDm HD
    have hDm : D ≤ m := by omega
    have Hrw : Hid (rowG G zs s = fillL D (roF (G.L s) (G.D s) (G.C s) (s : Int)) (datL zs s (roW (G.L s) (G.D s)))) := Lib.hid (by unfold rowG; rw [show (G.D s).toNat = D by omega])
    have Hrl := Lib.hid ((rowG_len G zs s).trans (show (G.D s).toNat = D by omega))
    have H32 := Lib.hid (fun i (hi : i < D) => rowG_32 hG (zs := zs) hlt (show i < (G.D s).toNat by omega))
    rw [hDs] at gr Hrw
    generalize G.L s = gl at HL gr Hrw
    generalize G.C s = gc at HC gr Hrw
    generalize roF gl (D : Int) gc (s : Int) = F at gr Hrw
    generalize roW gl (D : Int) = W at gr Hrw
    clear hDs HX0
    have hw7 := gr.w7
    have hd8 := gr.d8
    have HR := Lib.hid (fun V => refWidth_any gl (D : Int) gc V gr.l64 gr.d64 gr.c64)
    rw [gr.wd] at HR
    obtain ⟨k, hkk⟩ : ∃ k, min s zs.length = k := ⟨_, rfl⟩
    have hkl : k ≤ zs.length := by omega
    have hzl := hz.1
    have hmin : (if zs.length < s then (zs.length : Int) else (s : Int)) = (k : Int) := by split <;> omega
    have Hdt : Hid (datL zs s W = sectorsB (zs.drop k) W) := Lib.hid (by unfold datL; rw [hkk])
    have hbw : Below W0.heap.size W0 w := hk.bp.bel
    have CS0 := Lib.hid (fun V (hb : Below w.heap.size w V) => show Calls Try.prog 37 #[.slice (if cp = k then A else A.map (·.add k)) (zs.length - k) (cp - k), .int .i64 (W : Int)] V fun e w' => ∃ A' c', e = .returned (.slice A' W c') ∧ RdR w' w'.heap.size A' (datL zs s W) ∧ Below V.heap.size V w' from by
      rw [Hdt.out]
      have hb0 := hbw.trans (hb.mono hbw.size)
      refine (sectors_rd (A := if cp = k then A else A.map (·.add k)) (cp := cp - k) (show zs.length - k = (zs.drop k).length by simp) (((hz.below hb0 (Nat.le_refl _)).keep hb0.size (fun _ _ => rfl)).drop k cp hcp) (by omega)).mono ?_
      rintro e w' ⟨A', c', h1, _, h3, h4⟩
      exact ⟨A', c', h1, h3, h4⟩)
    have CF := Lib.hid (fun (A2 : Option Addr) (c2 : Nat) V (hrd : RdR V V.heap.size A2 (datL zs s W)) => refFill_good (cp := c2) hrd (datL_len zs s W) (gr.fok (datL_len zs s W) datL_mem) gr.eD gr.eF gr.l64 gr.d64 gr.c64 gr.r64)
    obtain ⟨a0, a1, a2⟩ := hk.gat (g := ga) (l := G.l) (d := G.d) (c := G.c) (t := 25) (f := (0, 0)) (by simp)
    obtain ⟨t0, t1, t2⟩ := hk.gat (g := gt) (l := G.l') (d := G.d') (c := G.c') (t := 25) (f := (0, 0)) (by simp)
    have hgt := (Array.getElem?_eq_some_iff.1 (hk.kx.kp (gt, Obj.cells #[.int .i64 G.l', .int .i64 G.d', .int .i64 G.c'] 25 (0, 0)) (by simp)).1).1
    have k0 : (0 : Int) ≤ (k : Int) := by omega
    have k1 : (k : Int) ≤ (zs.length : Int) := by omega
    have k2 : (k : Int) ≤ (cp : Int) := by omega
    have hcap : (zs.length : Int) ≤ (cp : Int) := by omega
    clear HX hk hf hkk hbw hz gr
    go_upto_if 36 with fail
    go_cut [37] from 29 to 75 (fun _ V => KS W0 V b H N ((w.heap.size, Obj.cells #[.int .i64 gl, .int .i64 (D : Int), .int .i64 gc] 25 (0, 0)) :: [(ga, Obj.cells #[.int .i64 G.l, .int .i64 G.d, .int .i64 G.c] 25 (0, 0)), (gt, Obj.cells #[.int .i64 G.l', .int .i64 G.d', .int .i64 G.c'] 25 (0, 0))]) [] [] ∧ Below w.heap.size w V)
    case first =>
      by_cases hs2 : (s : Int) < G.s
      · have e1 := Lib.hid (HL.out.trans (if_pos hs2))
        have e2 := Lib.hid (HD.out.trans (if_pos hs2))
        have e3 := Lib.hid (HC.out.trans (if_pos hs2))
        go_wp2_with (refine wpList_store_blk rfl 25 _ _ (by rfl) w.heap.size 0 (.agg #[.int .i64 G.l', .int .i64 G.d', .int .i64 G.c']) (by rfl) (by rfl) [.int .i64 G.l, .int .i64 G.d, .int .i64 G.c] 25 (hp_new _ _ _ rfl) [.int .i64 G.l', .int .i64 G.d', .int .i64 G.c'] rfl 3 rfl (by kernel_rfl) (by show 0 + 3 ≤ 3; omega) (cells3_one _ _ _) [.int .i64 G.l', .int .i64 G.d', .int .i64 G.c'] (by rfl) ?_; intro w7 h7 g7)
        go_meet
        rw [e1.out, e2.out, e3.out]
        exact ⟨Hk.out.box _ g7 h7, (below1 w _).grown g7 (by simp) (fun j e => by injection e with e; omega)⟩
      · have e1 := Lib.hid (HL.out.trans (if_neg hs2))
        have e2 := Lib.hid (HD.out.trans (if_neg hs2))
        have e3 := Lib.hid (HC.out.trans (if_neg hs2))
        go_wp2_with fail
        go_meet
        rw [e1.out, e2.out, e3.out]
        exact ⟨Hk.out.add _, below1 w _⟩
    case rest =>
      obtain ⟨hk2, hbc⟩ := hcut
      have CS := Lib.hid (fun V (hb : Below wc.heap.size wc V) => CS0.out V (hbc.trans (hb.mono hbc.size)))
      obtain ⟨g1, g2, g3⟩ := hk2.gat (List.mem_cons_self ..)
      have Hgb := Lib.hid (Array.getElem?_eq_some_iff.1 (hk2.kx.kp _ (List.mem_cons_self ..)).1).1
      have Hk2 := Lib.hid hk2
      clear hk2 CS0 hbc a0 a1 a2 t0 t1 t2 hgt Hk
      by_cases hck : cp = k
      · rw [if_pos hck] at CS
        subst hck
        rw [show zs.length - cp = 0 by omega, Nat.sub_self] at CS
        go_wp2_with fail
        refine wp_region_noPanic (region_ord 17 [] (fun V => Below wc.heap.size wc V) (by kernel_rfl) (by kernel_rfl) (fun _ _ _ _ _ h => h) fun R => ?_)
        change anyI _ _ _ _ _ _ 17 _ _ wc.drew
        have HS0 := Lib.hid (show (fun V => Below wc.heap.size wc V) wc.drew from (Below.refl _ _).drew)
        refine' anyI_take R 0 rfl (v := ?_) (by kernel_rfl) (by rfl) (fun V hV => ?hy) HS0.out ?_
        case hy => ((try dsimp only at hV);  have y0 := (hV.cell (p := ⟨w.heap.size, 0, none⟩) Hgb.out).trans g1; have y1 := (hV.cell (p := ⟨w.heap.size, 1, none⟩) Hgb.out).trans g2; have y2 := (hV.cell (p := ⟨w.heap.size, 2, none⟩) Hgb.out).trans g3; go_simp; try with_reducible rfl)
        try simp only [Act.put, List.getElem_toArray, List.getElem_cons_succ, List.getElem_cons_zero, List.setIfInBounds_toArray, List.set_cons_zero, List.set_cons_succ]
        refine' anyI_take R 1 rfl (v := ?_) (by kernel_rfl) (by rfl) (fun V hV => ?hy) HS0.out ?_
        case hy => ((try dsimp only at hV);  have y0 := (hV.cell (p := ⟨w.heap.size, 0, none⟩) Hgb.out).trans g1; have y1 := (hV.cell (p := ⟨w.heap.size, 1, none⟩) Hgb.out).trans g2; have y2 := (hV.cell (p := ⟨w.heap.size, 2, none⟩) Hgb.out).trans g3; go_simp; try with_reducible rfl)
        try simp only [Act.put, List.getElem_toArray, List.getElem_cons_succ, List.getElem_cons_zero, List.setIfInBounds_toArray, List.set_cons_zero, List.set_cons_succ]
        refine' anyI_take R 2 rfl (v := ?_) (by kernel_rfl) (by rfl) (fun V hV => ?hy) HS0.out ?_
        case hy => ((try dsimp only at hV);  have y0 := (hV.cell (p := ⟨w.heap.size, 0, none⟩) Hgb.out).trans g1; have y1 := (hV.cell (p := ⟨w.heap.size, 1, none⟩) Hgb.out).trans g2; have y2 := (hV.cell (p := ⟨w.heap.size, 2, none⟩) Hgb.out).trans g3; go_simp; try with_reducible rfl)
        try simp only [Act.put, List.getElem_toArray, List.getElem_cons_succ, List.getElem_cons_zero, List.setIfInBounds_toArray, List.set_cons_zero, List.set_cons_succ]
        refine' anyI_take R 3 rfl (v := ?_) (by kernel_rfl) (by rfl) (fun V hV => ?hy) HS0.out ?_
        case hy => ((try dsimp only at hV);  have y0 := (hV.cell (p := ⟨w.heap.size, 0, none⟩) Hgb.out).trans g1; have y1 := (hV.cell (p := ⟨w.heap.size, 1, none⟩) Hgb.out).trans g2; have y2 := (hV.cell (p := ⟨w.heap.size, 2, none⟩) Hgb.out).trans g3; go_simp; try with_reducible rfl)
        try simp only [Act.put, List.getElem_toArray, List.getElem_cons_succ, List.getElem_cons_zero, List.setIfInBounds_toArray, List.set_cons_zero, List.set_cons_succ]
        refine' anyI_take R 4 rfl (v := ?_) (by kernel_rfl) (by rfl) (fun V hV => ?hy) HS0.out ?_
        case hy => ((try dsimp only at hV);  have y0 := (hV.cell (p := ⟨w.heap.size, 0, none⟩) Hgb.out).trans g1; have y1 := (hV.cell (p := ⟨w.heap.size, 1, none⟩) Hgb.out).trans g2; have y2 := (hV.cell (p := ⟨w.heap.size, 2, none⟩) Hgb.out).trans g3; go_simp; try with_reducible rfl)
        try simp only [Act.put, List.getElem_toArray, List.getElem_cons_succ, List.getElem_cons_zero, List.setIfInBounds_toArray, List.set_cons_zero, List.set_cons_succ]
        refine' anyI_take R 5 rfl (v := ?_) (by kernel_rfl) (by rfl) (fun V hV => ?hy) HS0.out ?_
        case hy => ((try dsimp only at hV);  have y0 := (hV.cell (p := ⟨w.heap.size, 0, none⟩) Hgb.out).trans g1; have y1 := (hV.cell (p := ⟨w.heap.size, 1, none⟩) Hgb.out).trans g2; have y2 := (hV.cell (p := ⟨w.heap.size, 2, none⟩) Hgb.out).trans g3; go_simp; try with_reducible rfl)
        try simp only [Act.put, List.getElem_toArray, List.getElem_cons_succ, List.getElem_cons_zero, List.setIfInBounds_toArray, List.set_cons_zero, List.set_cons_succ]
        refine' anyI_take R 6 rfl (v := ?_) (by kernel_rfl) (by rfl) (fun V hV => ?hy) HS0.out ?_
        case hy => ((try dsimp only at hV);  have y0 := (hV.cell (p := ⟨w.heap.size, 0, none⟩) Hgb.out).trans g1; have y1 := (hV.cell (p := ⟨w.heap.size, 1, none⟩) Hgb.out).trans g2; have y2 := (hV.cell (p := ⟨w.heap.size, 2, none⟩) Hgb.out).trans g3; go_simp; try with_reducible rfl)
        try simp only [Act.put, List.getElem_toArray, List.getElem_cons_succ, List.getElem_cons_zero, List.setIfInBounds_toArray, List.set_cons_zero, List.set_cons_succ]
        refine' anyI_take R 7 rfl (v := ?_) (by kernel_rfl) (by rfl) (fun V hV => ?hy) HS0.out ?_
        case hy => ((try dsimp only at hV);  have y0 := (hV.cell (p := ⟨w.heap.size, 0, none⟩) Hgb.out).trans g1; have y1 := (hV.cell (p := ⟨w.heap.size, 1, none⟩) Hgb.out).trans g2; have y2 := (hV.cell (p := ⟨w.heap.size, 2, none⟩) Hgb.out).trans g3; go_simp; try with_reducible rfl)
        try simp only [Act.put, List.getElem_toArray, List.getElem_cons_succ, List.getElem_cons_zero, List.setIfInBounds_toArray, List.set_cons_zero, List.set_cons_succ]
        refine' anyI_take R 8 rfl (v := ?_) (by kernel_rfl) (by rfl) (fun V hV => ?hy) HS0.out ?_
        case hy => ((try dsimp only at hV);  have y0 := (hV.cell (p := ⟨w.heap.size, 0, none⟩) Hgb.out).trans g1; have y1 := (hV.cell (p := ⟨w.heap.size, 1, none⟩) Hgb.out).trans g2; have y2 := (hV.cell (p := ⟨w.heap.size, 2, none⟩) Hgb.out).trans g3; go_simp; try with_reducible rfl)
        try simp only [Act.put, List.getElem_toArray, List.getElem_cons_succ, List.getElem_cons_zero, List.setIfInBounds_toArray, List.set_cons_zero, List.set_cons_succ]
        refine anyI_one 9 (by kernel_rfl) rfl ?_
        try simp only [List.getElem_toArray, List.getElem_cons_succ, List.getElem_cons_zero]
        refine opE_step ?_
        rw [if_pos (by rfl)]
        go_simp
        go_at_call 38
        (with_reducible refine (HR.out _).mono ?_)
        rintro e w9 ⟨rfl, hb9⟩
        replace HS0 := Lib.hid (show Below wc.heap.size wc w9 from HS0.out.trans (hb9.mono HS0.out.size))
        clear hb9
        try dsimp only
        refine ⟨HS0.out, ?_⟩
        try simp only [Act.put, List.getElem_toArray, List.getElem_cons_succ, List.getElem_cons_zero, List.setIfInBounds_toArray, List.set_cons_zero, List.set_cons_succ]
        refine anyI_one 10 (by kernel_rfl) rfl ?_
        try simp only [List.getElem_toArray, List.getElem_cons_succ, List.getElem_cons_zero]
        refine opE_step ?_
        rw [if_pos (by rfl)]
        go_simp
        go_at_call 37
        (with_reducible refine (CS.out _ HS0.out).mono ?_)
        rintro e w10 ⟨A2, c2, rfl, hrd, hb10⟩
        have CF1 := Lib.hid (CF.out A2 c2 _ hrd)
        replace HS0 := Lib.hid (show Below wc.heap.size wc w10 from HS0.out.trans (hb10.mono HS0.out.size))
        clear hb10 hrd
        try dsimp only
        refine ⟨HS0.out, ?_⟩
        try simp only [Act.put, List.getElem_toArray, List.getElem_cons_succ, List.getElem_cons_zero, List.setIfInBounds_toArray, List.set_cons_zero, List.set_cons_succ]
        refine anyI_one 11 (by kernel_rfl) rfl ?_
        try simp only [List.getElem_toArray, List.getElem_cons_succ, List.getElem_cons_zero]
        refine opE_step ?_
        rw [if_pos (by rfl)]
        go_simp
        go_at_call 36
        have hsz := HS0.out.size
        (with_reducible refine CF1.out.mono ?_)
        rintro e w11 ⟨g, xs, rfl, hq, hb11⟩
        replace HS0 := Lib.hid (show Below wc.heap.size wc w11 from HS0.out.trans (hb11.mono HS0.out.size))
        have Hrf := Lib.hid (show RdF wc.heap.size w11 (some ⟨g, 0, none⟩) (rowG G zs s) from by rw [Hrw.out]; exact (hq.le hsz).rdf (by omega))
        clear hb11 hq
        try dsimp only
        refine ⟨HS0.out, ?_⟩
        try simp only [Act.put, List.getElem_toArray, List.getElem_cons_succ, List.getElem_cons_zero, List.setIfInBounds_toArray, List.set_cons_zero, List.set_cons_succ]
        refine' anyI_take R 12 rfl (v := ?_) (by kernel_rfl) (by rfl) (fun V hV => ?hy) HS0.out ?_
        case hy => ((try dsimp only at hV);  have y0 := (hV.cell (p := ⟨w.heap.size, 0, none⟩) Hgb.out).trans g1; have y1 := (hV.cell (p := ⟨w.heap.size, 1, none⟩) Hgb.out).trans g2; have y2 := (hV.cell (p := ⟨w.heap.size, 2, none⟩) Hgb.out).trans g3; go_simp; try with_reducible rfl)
        try simp only [Act.put, List.getElem_toArray, List.getElem_cons_succ, List.getElem_cons_zero, List.setIfInBounds_toArray, List.set_cons_zero, List.set_cons_succ]
        refine' anyI_take R 13 rfl (v := ?_) (by kernel_rfl) (by rfl) (fun V hV => ?hy) HS0.out ?_
        case hy => ((try dsimp only at hV);  have y0 := (hV.cell (p := ⟨w.heap.size, 0, none⟩) Hgb.out).trans g1; have y1 := (hV.cell (p := ⟨w.heap.size, 1, none⟩) Hgb.out).trans g2; have y2 := (hV.cell (p := ⟨w.heap.size, 2, none⟩) Hgb.out).trans g3; go_simp; try with_reducible rfl)
        try simp only [Act.put, List.getElem_toArray, List.getElem_cons_succ, List.getElem_cons_zero, List.setIfInBounds_toArray, List.set_cons_zero, List.set_cons_succ]
        refine' anyI_take R 14 rfl (v := ?_) (by kernel_rfl) (by rfl) (fun V hV => ?hy) HS0.out ?_
        case hy => ((try dsimp only at hV);  have y0 := (hV.cell (p := ⟨w.heap.size, 0, none⟩) Hgb.out).trans g1; have y1 := (hV.cell (p := ⟨w.heap.size, 1, none⟩) Hgb.out).trans g2; have y2 := (hV.cell (p := ⟨w.heap.size, 2, none⟩) Hgb.out).trans g3; go_simp; try with_reducible rfl)
        try simp only [Act.put, List.getElem_toArray, List.getElem_cons_succ, List.getElem_cons_zero, List.setIfInBounds_toArray, List.set_cons_zero, List.set_cons_succ]
        refine' anyI_take R 15 rfl (v := ?_) (by kernel_rfl) (by rfl) (fun V hV => ?hy) HS0.out ?_
        case hy => ((try dsimp only at hV);  have y0 := (hV.cell (p := ⟨w.heap.size, 0, none⟩) Hgb.out).trans g1; have y1 := (hV.cell (p := ⟨w.heap.size, 1, none⟩) Hgb.out).trans g2; have y2 := (hV.cell (p := ⟨w.heap.size, 2, none⟩) Hgb.out).trans g3; go_simp; try with_reducible rfl)
        try simp only [Act.put, List.getElem_toArray, List.getElem_cons_succ, List.getElem_cons_zero, List.setIfInBounds_toArray, List.set_cons_zero, List.set_cons_succ]
        refine' anyI_take R 16 rfl (v := ?_) (by kernel_rfl) (by rfl) (fun V hV => ?hy) HS0.out ?_
        case hy => ((try dsimp only at hV);  have y0 := (hV.cell (p := ⟨w.heap.size, 0, none⟩) Hgb.out).trans g1; have y1 := (hV.cell (p := ⟨w.heap.size, 1, none⟩) Hgb.out).trans g2; have y2 := (hV.cell (p := ⟨w.heap.size, 2, none⟩) Hgb.out).trans g3; go_simp; try with_reducible rfl)
        try simp only [Act.put, List.getElem_toArray, List.getElem_cons_succ, List.getElem_cons_zero, List.setIfInBounds_toArray, List.set_cons_zero, List.set_cons_succ]
        refine anyI_tail (by kernel_rfl) ?_
        try simp only [List.drop_succ_cons, List.drop_zero]
        clear R
        go_wp2_with fail
        refine NoPanic.normal ?_
        have F2 := HS0.out
        have Hks := Lib.hid (Hk2.out.rows F2 Hrf.out)
        clear F2
        go_upto_block 2 with fail
        refine wp_block ?_
        refine boI _ _ _ _ _ _ _ _ _ _ _ _ _ _ _ _ _ _ _ _ _ _ _ _ _ _ _ _ _ _ _ _ _ _ _ _ _ _ _ _ _ _ _ _ _ _ _ _ _ _ _ _ _ _ _ _ _ _ _ _ _ _ _ _ _ _ _ _ _ _ _ _ hs16 hDm hm Hrl.out H32.out ⟨Nat.zero_le _, Hks.out, Hf.out⟩ (fun v53 v54 v55 v56 v57 v58 v59 v60 v61 v62 v63 v64 v65 v66 v67 v68 v69 v70 v71 v72 v73 v74 v75 j H3 N3 V3 hI3 hx3 => ?_)
        subst hx3
        have K3 := Lib.hid (hI3.2.1.less (K' := [(ga, Obj.cells #[.int .i64 G.l, .int .i64 G.d, .int .i64 G.c] 25 (0, 0)), (gt, Obj.cells #[.int .i64 G.l', .int .i64 G.d', .int .i64 G.c'] 25 (0, 0))]) (R' := []) (S' := []) (fun _ h => List.mem_cons_of_mem _ h) (fun _ h => absurd h (by simp)) (fun _ h => h))
        have F3 := Lib.hid (fb_next hI3.2.2 Hrl.out)
        clear hI3
        go_wp2_with fail
        exact HK.out _ _ _ _ _ _ _ _ _ _ _ _ _ _ _ _ _ _ _ _ _ _ _ _ _ _ _ _ _ _ _ _ _ _ _ _ _ _ _ _ _ _ _ _ _ _ _ _ _ _ _ H3 N3 _ ⟨by omega, K3.out, F3.out⟩ (by omega)
      · rw [if_neg hck] at CS
        go_wp2_with fail
        refine wp_region_noPanic (region_ord 17 [] (fun V => Below wc.heap.size wc V) (by kernel_rfl) (by kernel_rfl) (fun _ _ _ _ _ h => h) fun R => ?_)
        change anyI _ _ _ _ _ _ 17 _ _ wc.drew
        have HS0 := Lib.hid (show (fun V => Below wc.heap.size wc V) wc.drew from (Below.refl _ _).drew)
        refine' anyI_take R 0 rfl (v := ?_) (by kernel_rfl) (by rfl) (fun V hV => ?hy) HS0.out ?_
        case hy => ((try dsimp only at hV);  have y0 := (hV.cell (p := ⟨w.heap.size, 0, none⟩) Hgb.out).trans g1; have y1 := (hV.cell (p := ⟨w.heap.size, 1, none⟩) Hgb.out).trans g2; have y2 := (hV.cell (p := ⟨w.heap.size, 2, none⟩) Hgb.out).trans g3; go_simp; try with_reducible rfl)
        try simp only [Act.put, List.getElem_toArray, List.getElem_cons_succ, List.getElem_cons_zero, List.setIfInBounds_toArray, List.set_cons_zero, List.set_cons_succ]
        refine' anyI_take R 1 rfl (v := ?_) (by kernel_rfl) (by rfl) (fun V hV => ?hy) HS0.out ?_
        case hy => ((try dsimp only at hV);  have y0 := (hV.cell (p := ⟨w.heap.size, 0, none⟩) Hgb.out).trans g1; have y1 := (hV.cell (p := ⟨w.heap.size, 1, none⟩) Hgb.out).trans g2; have y2 := (hV.cell (p := ⟨w.heap.size, 2, none⟩) Hgb.out).trans g3; go_simp; try with_reducible rfl)
        try simp only [Act.put, List.getElem_toArray, List.getElem_cons_succ, List.getElem_cons_zero, List.setIfInBounds_toArray, List.set_cons_zero, List.set_cons_succ]
        refine' anyI_take R 2 rfl (v := ?_) (by kernel_rfl) (by rfl) (fun V hV => ?hy) HS0.out ?_
        case hy => ((try dsimp only at hV);  have y0 := (hV.cell (p := ⟨w.heap.size, 0, none⟩) Hgb.out).trans g1; have y1 := (hV.cell (p := ⟨w.heap.size, 1, none⟩) Hgb.out).trans g2; have y2 := (hV.cell (p := ⟨w.heap.size, 2, none⟩) Hgb.out).trans g3; go_simp; try with_reducible rfl)
        try simp only [Act.put, List.getElem_toArray, List.getElem_cons_succ, List.getElem_cons_zero, List.setIfInBounds_toArray, List.set_cons_zero, List.set_cons_succ]
        refine' anyI_take R 3 rfl (v := ?_) (by kernel_rfl) (by rfl) (fun V hV => ?hy) HS0.out ?_
        case hy => ((try dsimp only at hV);  have y0 := (hV.cell (p := ⟨w.heap.size, 0, none⟩) Hgb.out).trans g1; have y1 := (hV.cell (p := ⟨w.heap.size, 1, none⟩) Hgb.out).trans g2; have y2 := (hV.cell (p := ⟨w.heap.size, 2, none⟩) Hgb.out).trans g3; go_simp; try with_reducible rfl)
        try simp only [Act.put, List.getElem_toArray, List.getElem_cons_succ, List.getElem_cons_zero, List.setIfInBounds_toArray, List.set_cons_zero, List.set_cons_succ]
        refine' anyI_take R 4 rfl (v := ?_) (by kernel_rfl) (by rfl) (fun V hV => ?hy) HS0.out ?_
        case hy => ((try dsimp only at hV);  have y0 := (hV.cell (p := ⟨w.heap.size, 0, none⟩) Hgb.out).trans g1; have y1 := (hV.cell (p := ⟨w.heap.size, 1, none⟩) Hgb.out).trans g2; have y2 := (hV.cell (p := ⟨w.heap.size, 2, none⟩) Hgb.out).trans g3; go_simp; try with_reducible rfl)
        try simp only [Act.put, List.getElem_toArray, List.getElem_cons_succ, List.getElem_cons_zero, List.setIfInBounds_toArray, List.set_cons_zero, List.set_cons_succ]
        refine' anyI_take R 5 rfl (v := ?_) (by kernel_rfl) (by rfl) (fun V hV => ?hy) HS0.out ?_
        case hy => ((try dsimp only at hV);  have y0 := (hV.cell (p := ⟨w.heap.size, 0, none⟩) Hgb.out).trans g1; have y1 := (hV.cell (p := ⟨w.heap.size, 1, none⟩) Hgb.out).trans g2; have y2 := (hV.cell (p := ⟨w.heap.size, 2, none⟩) Hgb.out).trans g3; go_simp; try with_reducible rfl)
        try simp only [Act.put, List.getElem_toArray, List.getElem_cons_succ, List.getElem_cons_zero, List.setIfInBounds_toArray, List.set_cons_zero, List.set_cons_succ]
        refine' anyI_take R 6 rfl (v := ?_) (by kernel_rfl) (by rfl) (fun V hV => ?hy) HS0.out ?_
        case hy => ((try dsimp only at hV);  have y0 := (hV.cell (p := ⟨w.heap.size, 0, none⟩) Hgb.out).trans g1; have y1 := (hV.cell (p := ⟨w.heap.size, 1, none⟩) Hgb.out).trans g2; have y2 := (hV.cell (p := ⟨w.heap.size, 2, none⟩) Hgb.out).trans g3; go_simp; try with_reducible rfl)
        try simp only [Act.put, List.getElem_toArray, List.getElem_cons_succ, List.getElem_cons_zero, List.setIfInBounds_toArray, List.set_cons_zero, List.set_cons_succ]
        refine' anyI_take R 7 rfl (v := ?_) (by kernel_rfl) (by rfl) (fun V hV => ?hy) HS0.out ?_
        case hy => ((try dsimp only at hV);  have y0 := (hV.cell (p := ⟨w.heap.size, 0, none⟩) Hgb.out).trans g1; have y1 := (hV.cell (p := ⟨w.heap.size, 1, none⟩) Hgb.out).trans g2; have y2 := (hV.cell (p := ⟨w.heap.size, 2, none⟩) Hgb.out).trans g3; go_simp; try with_reducible rfl)
        try simp only [Act.put, List.getElem_toArray, List.getElem_cons_succ, List.getElem_cons_zero, List.setIfInBounds_toArray, List.set_cons_zero, List.set_cons_succ]
        refine' anyI_take R 8 rfl (v := ?_) (by kernel_rfl) (by rfl) (fun V hV => ?hy) HS0.out ?_
        case hy => ((try dsimp only at hV);  have y0 := (hV.cell (p := ⟨w.heap.size, 0, none⟩) Hgb.out).trans g1; have y1 := (hV.cell (p := ⟨w.heap.size, 1, none⟩) Hgb.out).trans g2; have y2 := (hV.cell (p := ⟨w.heap.size, 2, none⟩) Hgb.out).trans g3; go_simp; try with_reducible rfl)
        try simp only [Act.put, List.getElem_toArray, List.getElem_cons_succ, List.getElem_cons_zero, List.setIfInBounds_toArray, List.set_cons_zero, List.set_cons_succ]
        refine anyI_one 9 (by kernel_rfl) rfl ?_
        try simp only [List.getElem_toArray, List.getElem_cons_succ, List.getElem_cons_zero]
        refine opE_step ?_
        rw [if_pos (by rfl)]
        go_simp
        go_at_call 38
        (with_reducible refine (HR.out _).mono ?_)
        rintro e w9 ⟨rfl, hb9⟩
        replace HS0 := Lib.hid (show Below wc.heap.size wc w9 from HS0.out.trans (hb9.mono HS0.out.size))
        clear hb9
        try dsimp only
        refine ⟨HS0.out, ?_⟩
        try simp only [Act.put, List.getElem_toArray, List.getElem_cons_succ, List.getElem_cons_zero, List.setIfInBounds_toArray, List.set_cons_zero, List.set_cons_succ]
        refine anyI_one 10 (by kernel_rfl) rfl ?_
        try simp only [List.getElem_toArray, List.getElem_cons_succ, List.getElem_cons_zero]
        refine opE_step ?_
        rw [if_pos (by rfl)]
        go_simp
        go_at_call 37
        (with_reducible refine (CS.out _ HS0.out).mono ?_)
        rintro e w10 ⟨A2, c2, rfl, hrd, hb10⟩
        have CF1 := Lib.hid (CF.out A2 c2 _ hrd)
        replace HS0 := Lib.hid (show Below wc.heap.size wc w10 from HS0.out.trans (hb10.mono HS0.out.size))
        clear hb10 hrd
        try dsimp only
        refine ⟨HS0.out, ?_⟩
        try simp only [Act.put, List.getElem_toArray, List.getElem_cons_succ, List.getElem_cons_zero, List.setIfInBounds_toArray, List.set_cons_zero, List.set_cons_succ]
        refine anyI_one 11 (by kernel_rfl) rfl ?_
        try simp only [List.getElem_toArray, List.getElem_cons_succ, List.getElem_cons_zero]
        refine opE_step ?_
        rw [if_pos (by rfl)]
        go_simp
        go_at_call 36
        have hsz := HS0.out.size
        (with_reducible refine CF1.out.mono ?_)
        rintro e w11 ⟨g, xs, rfl, hq, hb11⟩
        replace HS0 := Lib.hid (show Below wc.heap.size wc w11 from HS0.out.trans (hb11.mono HS0.out.size))
        have Hrf := Lib.hid (show RdF wc.heap.size w11 (some ⟨g, 0, none⟩) (rowG G zs s) from by rw [Hrw.out]; exact (hq.le hsz).rdf (by omega))
        clear hb11 hq
        try dsimp only
        refine ⟨HS0.out, ?_⟩
        try simp only [Act.put, List.getElem_toArray, List.getElem_cons_succ, List.getElem_cons_zero, List.setIfInBounds_toArray, List.set_cons_zero, List.set_cons_succ]
        refine' anyI_take R 12 rfl (v := ?_) (by kernel_rfl) (by rfl) (fun V hV => ?hy) HS0.out ?_
        case hy => ((try dsimp only at hV);  have y0 := (hV.cell (p := ⟨w.heap.size, 0, none⟩) Hgb.out).trans g1; have y1 := (hV.cell (p := ⟨w.heap.size, 1, none⟩) Hgb.out).trans g2; have y2 := (hV.cell (p := ⟨w.heap.size, 2, none⟩) Hgb.out).trans g3; go_simp; try with_reducible rfl)
        try simp only [Act.put, List.getElem_toArray, List.getElem_cons_succ, List.getElem_cons_zero, List.setIfInBounds_toArray, List.set_cons_zero, List.set_cons_succ]
        refine' anyI_take R 13 rfl (v := ?_) (by kernel_rfl) (by rfl) (fun V hV => ?hy) HS0.out ?_
        case hy => ((try dsimp only at hV);  have y0 := (hV.cell (p := ⟨w.heap.size, 0, none⟩) Hgb.out).trans g1; have y1 := (hV.cell (p := ⟨w.heap.size, 1, none⟩) Hgb.out).trans g2; have y2 := (hV.cell (p := ⟨w.heap.size, 2, none⟩) Hgb.out).trans g3; go_simp; try with_reducible rfl)
        try simp only [Act.put, List.getElem_toArray, List.getElem_cons_succ, List.getElem_cons_zero, List.setIfInBounds_toArray, List.set_cons_zero, List.set_cons_succ]
        refine' anyI_take R 14 rfl (v := ?_) (by kernel_rfl) (by rfl) (fun V hV => ?hy) HS0.out ?_
        case hy => ((try dsimp only at hV);  have y0 := (hV.cell (p := ⟨w.heap.size, 0, none⟩) Hgb.out).trans g1; have y1 := (hV.cell (p := ⟨w.heap.size, 1, none⟩) Hgb.out).trans g2; have y2 := (hV.cell (p := ⟨w.heap.size, 2, none⟩) Hgb.out).trans g3; go_simp; try with_reducible rfl)
        try simp only [Act.put, List.getElem_toArray, List.getElem_cons_succ, List.getElem_cons_zero, List.setIfInBounds_toArray, List.set_cons_zero, List.set_cons_succ]
        refine' anyI_take R 15 rfl (v := ?_) (by kernel_rfl) (by rfl) (fun V hV => ?hy) HS0.out ?_
        case hy => ((try dsimp only at hV);  have y0 := (hV.cell (p := ⟨w.heap.size, 0, none⟩) Hgb.out).trans g1; have y1 := (hV.cell (p := ⟨w.heap.size, 1, none⟩) Hgb.out).trans g2; have y2 := (hV.cell (p := ⟨w.heap.size, 2, none⟩) Hgb.out).trans g3; go_simp; try with_reducible rfl)
        try simp only [Act.put, List.getElem_toArray, List.getElem_cons_succ, List.getElem_cons_zero, List.setIfInBounds_toArray, List.set_cons_zero, List.set_cons_succ]
        refine' anyI_take R 16 rfl (v := ?_) (by kernel_rfl) (by rfl) (fun V hV => ?hy) HS0.out ?_
        case hy => ((try dsimp only at hV);  have y0 := (hV.cell (p := ⟨w.heap.size, 0, none⟩) Hgb.out).trans g1; have y1 := (hV.cell (p := ⟨w.heap.size, 1, none⟩) Hgb.out).trans g2; have y2 := (hV.cell (p := ⟨w.heap.size, 2, none⟩) Hgb.out).trans g3; go_simp; try with_reducible rfl)
        try simp only [Act.put, List.getElem_toArray, List.getElem_cons_succ, List.getElem_cons_zero, List.setIfInBounds_toArray, List.set_cons_zero, List.set_cons_succ]
        refine anyI_tail (by kernel_rfl) ?_
        try simp only [List.drop_succ_cons, List.drop_zero]
        clear R
        go_wp2_with fail
        refine NoPanic.normal ?_
        have F2 := HS0.out
        have Hks := Lib.hid (Hk2.out.rows F2 Hrf.out)
        clear F2
        go_upto_block 2 with fail
        refine wp_block ?_
        refine boI _ _ _ _ _ _ _ _ _ _ _ _ _ _ _ _ _ _ _ _ _ _ _ _ _ _ _ _ _ _ _ _ _ _ _ _ _ _ _ _ _ _ _ _ _ _ _ _ _ _ _ _ _ _ _ _ _ _ _ _ _ _ _ _ _ _ _ _ _ _ _ _ hs16 hDm hm Hrl.out H32.out ⟨Nat.zero_le _, Hks.out, Hf.out⟩ (fun v53 v54 v55 v56 v57 v58 v59 v60 v61 v62 v63 v64 v65 v66 v67 v68 v69 v70 v71 v72 v73 v74 v75 j H3 N3 V3 hI3 hx3 => ?_)
        subst hx3
        have K3 := Lib.hid (hI3.2.1.less (K' := [(ga, Obj.cells #[.int .i64 G.l, .int .i64 G.d, .int .i64 G.c] 25 (0, 0)), (gt, Obj.cells #[.int .i64 G.l', .int .i64 G.d', .int .i64 G.c'] 25 (0, 0))]) (R' := []) (S' := []) (fun _ h => List.mem_cons_of_mem _ h) (fun _ h => absurd h (by simp)) (fun _ h => h))
        have F3 := Lib.hid (fb_next hI3.2.2 Hrl.out)
        clear hI3
        go_wp2_with fail
        exact HK.out _ _ _ _ _ _ _ _ _ _ _ _ _ _ _ _ _ _ _ _ _ _ _ _ _ _ _ _ _ _ _ _ _ _ _ _ _ _ _ _ _ _ _ _ _ _ _ _ _ _ _ H3 N3 _ ⟨by omega, K3.out, F3.out⟩ (by omega)
  · have i1 : ¬ (s : Int) < 16 := by omega
    have Hin := Lib.hid (show s = 16 by omega)
    clear HK hk hf
    go_wp2_with fail
    exact HX.out _ _ _ _ _ _ _ _ _ _ _ _ _ _ _ _ _ _ _ _ _ _ _ _ _ _ _ _ _ _ _ _ _ _ _ _ _ _ _ _ _ _ _ _ _ _ _ _ _ _ _ Hin.out
set_option maxRecDepth 100000 in
set_option maxHeartbeats 3200000 in
theorem boO {W0 : World} {G : RG} {m b ga gt cp : Nat} {A : Option Addr} {zs : List Int} {H0 : BH} {N0 : Bch} {w : World} (u0 u1 u7 u8 u9 u10 u12 u14 u15 u16 u17 u18 u19 u20 u21 u22 u23 u24 u25 u26 u27 u28 u29 u30 u31 u32 u33 u34 u35 u36 u37 u38 u39 u40 u41 u42 u43 u44 u45 u46 u47 u48 u49 u50 u51 u52 u53 u54 u55 u56 u57 u58 u59 u60 u61 u62 u63 u64 u65 u66 u67 u68 u69 u70 u71 u72 u73 u74 u75 u76 : Value) (Q : Exit → Act → World → Prop) (hG : G.ok = true) (hs64 : -9223372036854775808 ≤ G.s ∧ G.s ≤ 9223372036854775807) (hD : ∀ t, t < 16 → G.D t ≤ (m : Int)) (hm : m ≤ 8) (hz : RdZ W0 W0.heap.size A zs) (hcp : zs.length ≤ cp) (hI : (0 ≤ 16 ∧ KS W0 w b H0 N0 [(ga, Obj.cells #[.int .i64 G.l, .int .i64 G.d, .int .i64 G.c] 25 (0, 0)), (gt, Obj.cells #[.int .i64 G.l', .int .i64 G.d', .int .i64 G.c'] 25 (0, 0))] [] [] ∧ Fb N0 m (rowG G zs) 0 0))
    (hX : ∀ (v14 v15 v16 v17 v29 v30 v31 v32 v33 v34 v35 v36 v37 v38 v39 v40 v41 v42 v43 v44 v45 v46 v47 v48 v49 v50 v51 v52 v53 v54 v55 v56 v57 v58 v59 v60 v61 v62 v63 v64 v65 v66 v67 v68 v69 v70 v71 v72 v73 v74 v75 : Value) (s : Nat) (H : BH) (N : Bch) (V : World), (s ≤ 16 ∧ KS W0 V b H N [(ga, Obj.cells #[.int .i64 G.l, .int .i64 G.d, .int .i64 G.c] 25 (0, 0)), (gt, Obj.cells #[.int .i64 G.l', .int .i64 G.d', .int .i64 G.c'] 25 (0, 0))] [] [] ∧ Fb N m (rowG G zs) s 0) → (s = 16) → Q (.exit 0) ⟨List.toArray (u0 :: u1 :: (.int .i64 G.s) :: (.int .i64 (m : Int)) :: (.slice A zs.length cp) :: (.pointer (some ⟨ga, 0, none⟩)) :: (.pointer (some ⟨gt, 0, none⟩)) :: u7 :: u8 :: u9 :: u10 :: (.pointer (some ⟨b, 0, none⟩)) :: u12 :: (.int .i64 ((s : Nat) : Int)) :: v14 :: v15 :: v16 :: v17 :: u18 :: u19 :: u20 :: u21 :: u22 :: u23 :: u24 :: u25 :: u26 :: u27 :: u28 :: v29 :: v30 :: v31 :: v32 :: v33 :: v34 :: v35 :: v36 :: v37 :: v38 :: v39 :: v40 :: v41 :: v42 :: v43 :: v44 :: v45 :: v46 :: v47 :: v48 :: v49 :: v50 :: v51 :: v52 :: v53 :: v54 :: v55 :: v56 :: v57 :: v58 :: v59 :: v60 :: v61 :: v62 :: v63 :: v64 :: v65 :: v66 :: v67 :: v68 :: v69 :: v70 :: v71 :: v72 :: v73 :: v74 :: v75 :: u76 :: []), []⟩ V) :
    Code.wp Try.prog (.loop (sub [1, 1, 1, 0, 1, 0, 0] codeBo)) Q ⟨List.toArray (u0 :: u1 :: (.int .i64 G.s) :: (.int .i64 (m : Int)) :: (.slice A zs.length cp) :: (.pointer (some ⟨ga, 0, none⟩)) :: (.pointer (some ⟨gt, 0, none⟩)) :: u7 :: u8 :: u9 :: u10 :: (.pointer (some ⟨b, 0, none⟩)) :: u12 :: (.int .i64 ((0 : Nat) : Int)) :: u14 :: u15 :: u16 :: u17 :: u18 :: u19 :: u20 :: u21 :: u22 :: u23 :: u24 :: u25 :: u26 :: u27 :: u28 :: u29 :: u30 :: u31 :: u32 :: u33 :: u34 :: u35 :: u36 :: u37 :: u38 :: u39 :: u40 :: u41 :: u42 :: u43 :: u44 :: u45 :: u46 :: u47 :: u48 :: u49 :: u50 :: u51 :: u52 :: u53 :: u54 :: u55 :: u56 :: u57 :: u58 :: u59 :: u60 :: u61 :: u62 :: u63 :: u64 :: u65 :: u66 :: u67 :: u68 :: u69 :: u70 :: u71 :: u72 :: u73 :: u74 :: u75 :: u76 :: []), []⟩ w := by
  refine wp_loop_ghost (fun gk a V => ∀ C : Prop, (∀ (u14 u15 u16 u17 u29 u30 u31 u32 u33 u34 u35 u36 u37 u38 u39 u40 u41 u42 u43 u44 u45 u46 u47 u48 u49 u50 u51 u52 u53 u54 u55 u56 u57 u58 u59 u60 u61 u62 u63 u64 u65 u66 u67 u68 u69 u70 u71 u72 u73 u74 u75 : Value) (s : Nat) (H : BH) (N : Bch), gk = 16 - s → (s ≤ 16 ∧ KS W0 V b H N [(ga, Obj.cells #[.int .i64 G.l, .int .i64 G.d, .int .i64 G.c] 25 (0, 0)), (gt, Obj.cells #[.int .i64 G.l', .int .i64 G.d', .int .i64 G.c'] 25 (0, 0))] [] [] ∧ Fb N m (rowG G zs) s 0) → a = ⟨List.toArray (u0 :: u1 :: (.int .i64 G.s) :: (.int .i64 (m : Int)) :: (.slice A zs.length cp) :: (.pointer (some ⟨ga, 0, none⟩)) :: (.pointer (some ⟨gt, 0, none⟩)) :: u7 :: u8 :: u9 :: u10 :: (.pointer (some ⟨b, 0, none⟩)) :: u12 :: (.int .i64 ((s : Nat) : Int)) :: u14 :: u15 :: u16 :: u17 :: u18 :: u19 :: u20 :: u21 :: u22 :: u23 :: u24 :: u25 :: u26 :: u27 :: u28 :: u29 :: u30 :: u31 :: u32 :: u33 :: u34 :: u35 :: u36 :: u37 :: u38 :: u39 :: u40 :: u41 :: u42 :: u43 :: u44 :: u45 :: u46 :: u47 :: u48 :: u49 :: u50 :: u51 :: u52 :: u53 :: u54 :: u55 :: u56 :: u57 :: u58 :: u59 :: u60 :: u61 :: u62 :: u63 :: u64 :: u65 :: u66 :: u67 :: u68 :: u69 :: u70 :: u71 :: u72 :: u73 :: u74 :: u75 :: u76 :: []), []⟩ → C) → C) (16 - 0) ?_ ?_
  · intro C hC
    exact hC _ _ _ _ _ _ _ _ _ _ _ _ _ _ _ _ _ _ _ _ _ _ _ _ _ _ _ _ _ _ _ _ _ _ _ _ _ _ _ _ _ _ _ _ _ _ _ _ _ _ _ (0) (H0) (N0) rfl hI rfl
  · intro gk a V hI'
    refine hI' _ ?_
    intro u14 u15 u16 u17 u29 u30 u31 u32 u33 u34 u35 u36 u37 u38 u39 u40 u41 u42 u43 u44 u45 u46 u47 u48 u49 u50 u51 u52 u53 u54 u55 u56 u57 u58 u59 u60 u61 u62 u63 u64 u65 u66 u67 u68 u69 u70 u71 u72 u73 u74 u75 s H N hk hinv ha
    subst ha
    subst hk
    refine boOb _ _ _ _ _ _ _ _ _ _ _ _ _ _ _ _ _ _ _ _ _ _ _ _ _ _ _ _ _ _ _ _ _ _ _ _ _ _ _ _ _ _ _ _ _ _ _ _ _ _ _ _ _ _ _ _ _ _ _ _ _ _ _ _ _ _ _ _ _ _ _ _ hG hs64 hD hm hz hcp hinv (fun v14 v15 v16 v17 v29 v30 v31 v32 v33 v34 v35 v36 v37 v38 v39 v40 v41 v42 v43 v44 v45 v46 v47 v48 v49 v50 v51 v52 v53 v54 v55 v56 v57 v58 v59 v60 v61 v62 v63 v64 v65 v66 v67 v68 v69 v70 v71 v72 v73 v74 v75 H2 N2 V2 h2 hm => ?_) (fun v14 v15 v16 v17 v29 v30 v31 v32 v33 v34 v35 v36 v37 v38 v39 v40 v41 v42 v43 v44 v45 v46 v47 v48 v49 v50 v51 v52 v53 v54 v55 v56 v57 v58 v59 v60 v61 v62 v63 v64 v65 v66 v67 v68 v69 v70 v71 v72 v73 v74 v75 hx => hX v14 v15 v16 v17 v29 v30 v31 v32 v33 v34 v35 v36 v37 v38 v39 v40 v41 v42 v43 v44 v45 v46 v47 v48 v49 v50 v51 v52 v53 v54 v55 v56 v57 v58 v59 v60 v61 v62 v63 v64 v65 v66 v67 v68 v69 v70 v71 v72 v73 v74 v75 s H N V hinv hx)
    refine ⟨_, hm, fun C hC => ?_⟩
    exact hC v14 v15 v16 v17 v29 v30 v31 v32 v33 v34 v35 v36 v37 v38 v39 v40 v41 v42 v43 v44 v45 v46 v47 v48 v49 v50 v51 v52 v53 v54 v55 v56 v57 v58 v59 v60 v61 v62 v63 v64 v65 v66 v67 v68 v69 v70 v71 v72 v73 v74 v75 ((s + 1)) (H2) (N2) rfl h2 rfl
set_option maxRecDepth 100000 in
set_option maxHeartbeats 3200000 in
theorem both_any (G : RG) (hG : G.ok = true) (h64 : RG64 G) (m : Nat) (hD : ∀ t, t < 16 → G.D t ≤ (m : Int)) (h1 : 1 ≤ m) (hm : m ≤ 8) (A : Option Addr) (zs : List Int) (k cp : Nat) (w : World) (hk : k = zs.length) (hcp : zs.length ≤ cp) (hz : RdZ w w.heap.size A zs) :
    Calls Try.prog 12 #[.agg #[.int .i64 G.l, .int .i64 G.d, .int .i64 G.c], .agg #[.int .i64 G.l', .int .i64 G.d', .int .i64 G.c'], .int .i64 G.s, .int .i64 (m : Int), .slice A k cp] w fun e w' => ∃ b H N, e = .returned (.pointer (some ⟨b, 0, none⟩)) ∧ KS w w' b H N [] [] [] ∧ Fb N m (rowG G zs) 16 0 := by
  subst hk
  have hpn := ptr_eq
  have B2 := below2 w (.cells #[.int .i64 G.l, .int .i64 G.d, .int .i64 G.c] 25) (.cells #[.int .i64 G.l', .int .i64 G.d', .int .i64 G.c'] 25)
  have CN := Lib.hid (bp_new m w _ B2 ⟨h1, hm⟩)
  have hz1 : ((w.alloc (.cells #[.int .i64 G.l, .int .i64 G.d, .int .i64 G.c] 25)).alloc (.cells #[.int .i64 G.l', .int .i64 G.d', .int .i64 G.c'] 25)).heap.size = w.heap.size + 2 := by simp
  have hh0 : ((w.alloc (.cells #[.int .i64 G.l, .int .i64 G.d, .int .i64 G.c] 25)).alloc (.cells #[.int .i64 G.l', .int .i64 G.d', .int .i64 G.c'] 25)).heap[w.heap.size]? = some (.cells #[.int .i64 G.l, .int .i64 G.d, .int .i64 G.c] 25) := (hp_old _ _ _ (by simp)).trans (hp_new _ _ _ rfl)
  have hh1 : ((w.alloc (.cells #[.int .i64 G.l, .int .i64 G.d, .int .i64 G.c] 25)).alloc (.cells #[.int .i64 G.l', .int .i64 G.d', .int .i64 G.c'] 25)).heap[w.heap.size + 1]? = some (.cells #[.int .i64 G.l', .int .i64 G.d', .int .i64 G.c'] 25) := hp_new _ _ _ (by simp)
  have Hz := Lib.hid hz
  have hs64 := h64.s
  clear hz B2 h64
  go_enter Try.func12, Try.ntmps12
  go_wp2_with fail
  refine CN.out.mono ?_
  rintro e w1 ⟨b, H, rfl, hp, hb1, hlo⟩
  unfold ptr
  have HK0 := Lib.hid (show KS w w1 b H (Bch.new m) [(w.heap.size, Obj.cells #[.int .i64 G.l, .int .i64 G.d, .int .i64 G.c] 25 (0, 0)), (w.heap.size + 1, Obj.cells #[.int .i64 G.l', .int .i64 G.d', .int .i64 G.c'] 25 (0, 0))] [] [] from by
    refine ⟨⟨hp, fun p hp' => ?_⟩, fun _ hp => absurd hp (by simp), fun _ hp => absurd hp (by simp)⟩
    simp only [List.mem_cons, List.not_mem_nil, or_false] at hp'
    rcases hp' with rfl | rfl
    · exact ⟨(hb1.block w.heap.size (by rw [hz1]; omega)).trans hh0, fun e => by have := hlo _ e; rw [hz1] at this; omega, Nat.le_refl _⟩
    · exact ⟨(hb1.block (w.heap.size + 1) (by rw [hz1]; omega)).trans hh1, fun e => by have := hlo _ e; rw [hz1] at this; omega, by show w.heap.size ≤ w.heap.size + 1; omega⟩)
  have HF0 := Lib.hid (fb_new m (rowG G zs))
  clear hp hb1 hlo hh0 hh1 CN hz1
  go_upto_block 0 with fail
  refine wp_block ?_
  refine boO _ _ _ _ _ _ _ _ _ _ _ _ _ _ _ _ _ _ _ _ _ _ _ _ _ _ _ _ _ _ _ _ _ _ _ _ _ _ _ _ _ _ _ _ _ _ _ _ _ _ _ _ _ _ _ _ _ _ _ _ _ _ _ _ _ _ _ _ _ _ _ hG hs64 hD hm Hz.out hcp ⟨Nat.zero_le _, HK0.out, HF0.out⟩ (fun v14 v15 v16 v17 v29 v30 v31 v32 v33 v34 v35 v36 v37 v38 v39 v40 v41 v42 v43 v44 v45 v46 v47 v48 v49 v50 v51 v52 v53 v54 v55 v56 v57 v58 v59 v60 v61 v62 v63 v64 v65 v66 v67 v68 v69 v70 v71 v72 v73 v74 v75 s H2 N2 V2 hI hx => ?_)
  subst hx
  have HK2 := Lib.hid (hI.2.1.less (K' := []) (R' := []) (S' := []) (fun _ h => absurd h (by simp)) (fun _ h => h) (fun _ h => h))
  have HF2 := Lib.hid hI.2.2
  clear hI
  go_wp2_with fail
  go_ret
  exact ⟨b, H2, N2, rfl, HK2.out, HF2.out⟩
end Go.Proofs.Ytadmofpipfdedaa
end
