/- Texts put together: StpFilledLoops, RowCount, RowLose, RowLost, StpStd. -/
import Derived.Test.YtadfimimkkimmaaSaaam
import Derived.Test.YtadfimimkkimmaaSaaao
import Derived.Test.YtadfimimkkimmaaSaaah
import Derived.Test.YtadfimimkkimmaaSaaad
import Derived.Test.YtadfimimkkimmaaSaaai
section
set_option linter.unusedVariables false
set_option linter.unusedSimpArgs false
namespace Go.Proofs.Ytadfimimkkimmaa
open Go.RowKit

noncomputable def codeFld : Code := Try.f9.body.getD .skip
theorem Gr.at {n l c r : Int} {D F W : Nat} (h : Gr n l c r D F W) {s : Nat} (hs : s < 16) : Gr n l c (s : Int) D (roF l (D : Int) c (s : Int)) W := by
  have hok := plOk_mk (plOk_yes h.ok).1 (show (0 : Int) ≤ (s : Int) by omega) (show (s : Int) < 16 by omega)
  have R := ro_of hok
  have hF := R.hF
  rw [h.eD] at hF
  exact ⟨hok, R, h.eD, rfl, h.eW, hF, h.hW, h.w1, h.w7, h.d8, h.d3, h.lv, h.wd, h.l64, h.d64, h.c64, by omega, ⟨by omega, by omega⟩⟩
/-- A row of a filled bench. -/
def rowL (l c : Int) (D W : Nat) (zs : List Int) (s : Nat) : List (List UInt8) := fillL D (roF l (D : Int) c (s : Int)) (datL zs s W)
theorem rowL_32 {n l c r : Int} {D F W : Nat} (h : Gr n l c r D F W) {zs : List Int} {s i : Nat} (hs : s < 16) (hi : i < D) : ((rowL l c D W zs s).getD i []).length = 32 := (h.at hs).fills (datL_len _ _ _) datL_mem hi
theorem rowL_len (l c : Int) (D W : Nat) (zs : List Int) (s : Nat) : (rowL l c D W zs s).length = D := fillL_len _ _ _
/-- The document's Fill of what may be filled. -/
theorem refFill_good {A : Option Addr} {rs : List (List UInt8)} {n cp D F : Nat} {l d c r : Int} {w : World} (hrd : RdR w w.heap.size A rs) (hn : rs.length = n) (hT : fillOk l d c r rs = true) (hD : roD d = D) (hF : roF l d c r = F)
    (hl : -9223372036854775808 ≤ l ∧ l ≤ 9223372036854775807) (hd : -9223372036854775808 ≤ d ∧ d ≤ 9223372036854775807) (hc : -9223372036854775808 ≤ c ∧ c ≤ 9223372036854775807) (hr : -9223372036854775808 ≤ r ∧ r ≤ 9223372036854775807) :
    Calls Try.prog 32 #[.agg #[.int .i64 l, .int .i64 d, .int .i64 c], .int .i64 r, .slice A n cp] w fun e w' => ∃ g xs, e = .returned (.tuple #[.slice (some ⟨g, 0, none⟩) D D, .bool true]) ∧ Rq w.heap.size w' g D D xs (fillL D F rs) ∧ Below w.heap.size w w' := by
  subst hD hF
  refine (refFill_yes A rs n cp l d c r w hn hrd hT hl hd hc hr).mono ?_
  rintro e w' ⟨g, xs, he, hq, hb⟩
  rw [fillL_len] at he hq
  exact ⟨g, xs, he, hq, hb⟩
set_option maxRecDepth 100000 in
set_option maxHeartbeats 3200000 in
theorem flIb {W0 : World} {m D b g s : Nat} {KK : List (Nat × Obj)} {fl : Nat → List (List UInt8)} {j : Nat} {H : BH} {N : Bch} {w : World} (u0 u2 u3 u4 u5 u6 u8 u13 u14 u15 u16 u17 u18 u19 u20 u21 u22 u23 u24 u25 u26 u27 u28 u29 u30 u31 u32 u33 u34 u35 u36 u37 u38 u39 u40 u41 u42 u43 u44 u45 u46 u47 u48 u49 u50 u51 u52 u53 u54 u55 u56 u57 u58 u59 u60 u61 u62 u63 u64 u65 u66 : Value) (K : Act → World → Prop) (Q0 : Exit → Act → World → Prop) (hs : s < 16) (hD : D ≤ m) (hm : m ≤ 8) (hln : (fl s).length = D) (h32 : ∀ i, i < D → ((fl s).getD i []).length = 32) (hI : (j ≤ D ∧ KS W0 w b H N KK [(some ⟨g, 0, none⟩, fl s)] [] ∧ Fld N m D fl s j))
    (hK : ∀ (v43 v44 v45 v46 v47 v48 v49 v50 v51 v52 v53 v54 v55 v56 v57 v58 v59 v60 v61 v62 v63 v64 v65 : Value) (H2 : BH) (N2 : Bch) (V : World), ((j + 1) ≤ D ∧ KS W0 V b H2 N2 KK [(some ⟨g, 0, none⟩, fl s)] [] ∧ Fld N2 m D fl s (j + 1)) → D - (j + 1) < D - j → K ⟨List.toArray (u0 :: (.int .i64 (m : Int)) :: u2 :: u3 :: u4 :: u5 :: u6 :: (.pointer (some ⟨b, 0, none⟩)) :: u8 :: (.int .i64 (s : Int)) :: (.slice (some ⟨g, 0, none⟩) D D) :: (.bool true) :: (.int .i64 (((j + 1) : Nat) : Int)) :: u13 :: u14 :: u15 :: u16 :: u17 :: u18 :: u19 :: u20 :: u21 :: u22 :: u23 :: u24 :: u25 :: u26 :: u27 :: u28 :: u29 :: u30 :: u31 :: u32 :: u33 :: u34 :: u35 :: u36 :: u37 :: u38 :: u39 :: u40 :: u41 :: u42 :: v43 :: v44 :: v45 :: v46 :: v47 :: v48 :: v49 :: v50 :: v51 :: v52 :: v53 :: v54 :: v55 :: v56 :: v57 :: v58 :: v59 :: v60 :: v61 :: v62 :: v63 :: v64 :: v65 :: u66 :: []), []⟩ V)
    (hX : ∀ (v43 v44 v45 v46 v47 v48 v49 v50 v51 v52 v53 v54 v55 v56 v57 v58 v59 v60 v61 v62 v63 v64 v65 : Value), (j = D) → Q0 (.exit 2) ⟨List.toArray (u0 :: (.int .i64 (m : Int)) :: u2 :: u3 :: u4 :: u5 :: u6 :: (.pointer (some ⟨b, 0, none⟩)) :: u8 :: (.int .i64 (s : Int)) :: (.slice (some ⟨g, 0, none⟩) D D) :: (.bool true) :: (.int .i64 ((j : Nat) : Int)) :: u13 :: u14 :: u15 :: u16 :: u17 :: u18 :: u19 :: u20 :: u21 :: u22 :: u23 :: u24 :: u25 :: u26 :: u27 :: u28 :: u29 :: u30 :: u31 :: u32 :: u33 :: u34 :: u35 :: u36 :: u37 :: u38 :: u39 :: u40 :: u41 :: u42 :: v43 :: v44 :: v45 :: v46 :: v47 :: v48 :: v49 :: v50 :: v51 :: v52 :: v53 :: v54 :: v55 :: v56 :: v57 :: v58 :: v59 :: v60 :: v61 :: v62 :: v63 :: v64 :: v65 :: u66 :: []), []⟩ w) :
    Code.wp Try.prog (sub [1, 1, 1, 0, 1, 0, 0, 1, 0, 0, 1, 1, 0, 0] codeFld) (Exit.then K Q0) ⟨List.toArray (u0 :: (.int .i64 (m : Int)) :: u2 :: u3 :: u4 :: u5 :: u6 :: (.pointer (some ⟨b, 0, none⟩)) :: u8 :: (.int .i64 (s : Int)) :: (.slice (some ⟨g, 0, none⟩) D D) :: (.bool true) :: (.int .i64 ((j : Nat) : Int)) :: u13 :: u14 :: u15 :: u16 :: u17 :: u18 :: u19 :: u20 :: u21 :: u22 :: u23 :: u24 :: u25 :: u26 :: u27 :: u28 :: u29 :: u30 :: u31 :: u32 :: u33 :: u34 :: u35 :: u36 :: u37 :: u38 :: u39 :: u40 :: u41 :: u42 :: u43 :: u44 :: u45 :: u46 :: u47 :: u48 :: u49 :: u50 :: u51 :: u52 :: u53 :: u54 :: u55 :: u56 :: u57 :: u58 :: u59 :: u60 :: u61 :: u62 :: u63 :: u64 :: u65 :: u66 :: []), []⟩ w := by
  have HK := Lib.hid hK
  have HX := Lib.hid hX
  clear hK hX
  conv => arg 2; whnf
  obtain ⟨hj, hk, hf⟩ := hI
  have Hk := Lib.hid hk
  have Hf := Lib.hid hf
  by_cases hlt : j < D
  · have i0 : (0 : Int) ≤ (j : Int) := by omega
    have i1 : (j : Int) < (D : Int) := by omega
    have i2 : (j : Int) < (m : Int) := by omega
    have h32j := h32 j hlt
    obtain ⟨b', off, A', c', e, h1, h2⟩ := (hk.rx _ (List.mem_cons_self ..)).at (k := j) (by show j < (fl s).length; omega)
    injection e with e
    injection e with e2 e3 _
    subst e2 e3
    dsimp only at h1 h2
    rw [Nat.zero_add, h32j] at h1
    have Hst := Lib.hid (fld_damage hf (by omega) hs h32j)
    have CD := ks_damage hk (j : Int) (36 + (s : Int)) ((fl s).getD j []) A' 32 c' h32j.symm ⟨by omega, by omega⟩ ⟨by omega, by omega⟩ h2.rdb (fun i hi => by rw [hf.gd.ps i (by rw [hf.gd.n] at hi; exact hi)]; exact Nat.zero_le _)
    rw [show (36 + (s : Int)) = ((36 + s : Nat) : Int) by omega] at CD
    generalize (fl s).getD j [] = x at CD Hst
    obtain ⟨N2, hN2⟩ : ∃ N2, N.damage (j : Int) ((36 + s : Nat) : Int) x = N2 := ⟨_, rfl⟩
    rw [hN2] at CD Hst
    rw [show ((36 + s : Nat) : Int) = 36 + (s : Int) by omega] at CD
    have CD := Lib.hid CD
    clear HX hk hf hN2 h2 h32j h32 hln
    go_wp2_with fail
    (with_reducible refine CD.out.mono ?_); rintro e w1 ⟨rfl, H2, k2⟩
    have K2 := Lib.hid k2
    clear k2
    go_wp2_with fail
    exact HK.out _ _ _ _ _ _ _ _ _ _ _ _ _ _ _ _ _ _ _ _ _ _ _ H2 N2 _ ⟨by omega, K2.out, Hst.out⟩ (by omega)
  · have i1 : ¬ (j : Int) < (D : Int) := by omega
    have Hin := Lib.hid (show j = D by omega)
    clear HK hk hf
    go_wp2_with fail
    exact HX.out _ _ _ _ _ _ _ _ _ _ _ _ _ _ _ _ _ _ _ _ _ _ _ Hin.out
set_option maxRecDepth 100000 in
set_option maxHeartbeats 3200000 in
theorem flI {W0 : World} {m D b g s : Nat} {KK : List (Nat × Obj)} {fl : Nat → List (List UInt8)} {H0 : BH} {N0 : Bch} {w : World} (u0 u2 u3 u4 u5 u6 u8 u13 u14 u15 u16 u17 u18 u19 u20 u21 u22 u23 u24 u25 u26 u27 u28 u29 u30 u31 u32 u33 u34 u35 u36 u37 u38 u39 u40 u41 u42 u43 u44 u45 u46 u47 u48 u49 u50 u51 u52 u53 u54 u55 u56 u57 u58 u59 u60 u61 u62 u63 u64 u65 u66 : Value) (Q : Exit → Act → World → Prop) (hs : s < 16) (hD : D ≤ m) (hm : m ≤ 8) (hln : (fl s).length = D) (h32 : ∀ i, i < D → ((fl s).getD i []).length = 32) (hI : (0 ≤ D ∧ KS W0 w b H0 N0 KK [(some ⟨g, 0, none⟩, fl s)] [] ∧ Fld N0 m D fl s 0))
    (hX : ∀ (v43 v44 v45 v46 v47 v48 v49 v50 v51 v52 v53 v54 v55 v56 v57 v58 v59 v60 v61 v62 v63 v64 v65 : Value) (j : Nat) (H : BH) (N : Bch) (V : World), (j ≤ D ∧ KS W0 V b H N KK [(some ⟨g, 0, none⟩, fl s)] [] ∧ Fld N m D fl s j) → (j = D) → Q (.exit 2) ⟨List.toArray (u0 :: (.int .i64 (m : Int)) :: u2 :: u3 :: u4 :: u5 :: u6 :: (.pointer (some ⟨b, 0, none⟩)) :: u8 :: (.int .i64 (s : Int)) :: (.slice (some ⟨g, 0, none⟩) D D) :: (.bool true) :: (.int .i64 ((j : Nat) : Int)) :: u13 :: u14 :: u15 :: u16 :: u17 :: u18 :: u19 :: u20 :: u21 :: u22 :: u23 :: u24 :: u25 :: u26 :: u27 :: u28 :: u29 :: u30 :: u31 :: u32 :: u33 :: u34 :: u35 :: u36 :: u37 :: u38 :: u39 :: u40 :: u41 :: u42 :: v43 :: v44 :: v45 :: v46 :: v47 :: v48 :: v49 :: v50 :: v51 :: v52 :: v53 :: v54 :: v55 :: v56 :: v57 :: v58 :: v59 :: v60 :: v61 :: v62 :: v63 :: v64 :: v65 :: u66 :: []), []⟩ V) :
    Code.wp Try.prog (.loop (sub [1, 1, 1, 0, 1, 0, 0, 1, 0, 0, 1, 1, 0, 0] codeFld)) Q ⟨List.toArray (u0 :: (.int .i64 (m : Int)) :: u2 :: u3 :: u4 :: u5 :: u6 :: (.pointer (some ⟨b, 0, none⟩)) :: u8 :: (.int .i64 (s : Int)) :: (.slice (some ⟨g, 0, none⟩) D D) :: (.bool true) :: (.int .i64 ((0 : Nat) : Int)) :: u13 :: u14 :: u15 :: u16 :: u17 :: u18 :: u19 :: u20 :: u21 :: u22 :: u23 :: u24 :: u25 :: u26 :: u27 :: u28 :: u29 :: u30 :: u31 :: u32 :: u33 :: u34 :: u35 :: u36 :: u37 :: u38 :: u39 :: u40 :: u41 :: u42 :: u43 :: u44 :: u45 :: u46 :: u47 :: u48 :: u49 :: u50 :: u51 :: u52 :: u53 :: u54 :: u55 :: u56 :: u57 :: u58 :: u59 :: u60 :: u61 :: u62 :: u63 :: u64 :: u65 :: u66 :: []), []⟩ w := by
  refine wp_loop_ghost (fun gk a V => ∀ C : Prop, (∀ (u43 u44 u45 u46 u47 u48 u49 u50 u51 u52 u53 u54 u55 u56 u57 u58 u59 u60 u61 u62 u63 u64 u65 : Value) (j : Nat) (H : BH) (N : Bch), gk = D - j → (j ≤ D ∧ KS W0 V b H N KK [(some ⟨g, 0, none⟩, fl s)] [] ∧ Fld N m D fl s j) → a = ⟨List.toArray (u0 :: (.int .i64 (m : Int)) :: u2 :: u3 :: u4 :: u5 :: u6 :: (.pointer (some ⟨b, 0, none⟩)) :: u8 :: (.int .i64 (s : Int)) :: (.slice (some ⟨g, 0, none⟩) D D) :: (.bool true) :: (.int .i64 ((j : Nat) : Int)) :: u13 :: u14 :: u15 :: u16 :: u17 :: u18 :: u19 :: u20 :: u21 :: u22 :: u23 :: u24 :: u25 :: u26 :: u27 :: u28 :: u29 :: u30 :: u31 :: u32 :: u33 :: u34 :: u35 :: u36 :: u37 :: u38 :: u39 :: u40 :: u41 :: u42 :: u43 :: u44 :: u45 :: u46 :: u47 :: u48 :: u49 :: u50 :: u51 :: u52 :: u53 :: u54 :: u55 :: u56 :: u57 :: u58 :: u59 :: u60 :: u61 :: u62 :: u63 :: u64 :: u65 :: u66 :: []), []⟩ → C) → C) (D - 0) ?_ ?_
  · intro C hC
    exact hC _ _ _ _ _ _ _ _ _ _ _ _ _ _ _ _ _ _ _ _ _ _ _ (0) (H0) (N0) rfl hI rfl
  · intro gk a V hI'
    refine hI' _ ?_
    intro u43 u44 u45 u46 u47 u48 u49 u50 u51 u52 u53 u54 u55 u56 u57 u58 u59 u60 u61 u62 u63 u64 u65 j H N hk hinv ha
    subst ha
    subst hk
    refine flIb _ _ _ _ _ _ _ _ _ _ _ _ _ _ _ _ _ _ _ _ _ _ _ _ _ _ _ _ _ _ _ _ _ _ _ _ _ _ _ _ _ _ _ _ _ _ _ _ _ _ _ _ _ _ _ _ _ _ _ _ _ _ _ hs hD hm hln h32 hinv (fun v43 v44 v45 v46 v47 v48 v49 v50 v51 v52 v53 v54 v55 v56 v57 v58 v59 v60 v61 v62 v63 v64 v65 H2 N2 V2 h2 hm => ?_) (fun v43 v44 v45 v46 v47 v48 v49 v50 v51 v52 v53 v54 v55 v56 v57 v58 v59 v60 v61 v62 v63 v64 v65 hx => hX v43 v44 v45 v46 v47 v48 v49 v50 v51 v52 v53 v54 v55 v56 v57 v58 v59 v60 v61 v62 v63 v64 v65 j H N V hinv hx)
    refine ⟨_, hm, fun C hC => ?_⟩
    exact hC v43 v44 v45 v46 v47 v48 v49 v50 v51 v52 v53 v54 v55 v56 v57 v58 v59 v60 v61 v62 v63 v64 v65 ((j + 1)) (H2) (N2) rfl h2 rfl
set_option maxRecDepth 100000 in
set_option maxHeartbeats 3200000 in
theorem flOb {W0 : World} {n l c r : Int} {D F W m b gb cp : Nat} {A : Option Addr} {zs : List Int} {s : Nat} {H : BH} {N : Bch} {w : World} (u4 u5 u6 u8 u10 u11 u12 u13 u14 u15 u16 u17 u18 u19 u20 u21 u22 u23 u24 u25 u26 u27 u28 u29 u30 u31 u32 u33 u34 u35 u36 u37 u38 u39 u40 u41 u42 u43 u44 u45 u46 u47 u48 u49 u50 u51 u52 u53 u54 u55 u56 u57 u58 u59 u60 u61 u62 u63 u64 u65 u66 : Value) (K : Act → World → Prop) (Q0 : Exit → Act → World → Prop) (gr : Gr n l c r D F W) (hD : D ≤ m) (hm : m ≤ 8) (hz : RdZ W0 W0.heap.size A zs) (hcp : zs.length ≤ cp) (hI : (s ≤ 16 ∧ KS W0 w b H N [(gb, Obj.cells #[.int .i64 l, .int .i64 (D : Int), .int .i64 c] 24 (0, 0))] [] [] ∧ Fld N m D (rowL l c D W zs) s 0))
    (hK : ∀ (v10 v11 v12 v24 v25 v26 v27 v28 v29 v30 v31 v32 v33 v34 v35 v36 v37 v38 v39 v40 v41 v42 v43 v44 v45 v46 v47 v48 v49 v50 v51 v52 v53 v54 v55 v56 v57 v58 v59 v60 v61 v62 v63 v64 v65 : Value) (H2 : BH) (N2 : Bch) (V : World), ((s + 1) ≤ 16 ∧ KS W0 V b H2 N2 [(gb, Obj.cells #[.int .i64 l, .int .i64 (D : Int), .int .i64 c] 24 (0, 0))] [] [] ∧ Fld N2 m D (rowL l c D W zs) (s + 1) 0) → 16 - (s + 1) < 16 - s → K ⟨List.toArray ((.agg #[.int .i64 l, .int .i64 (D : Int), .int .i64 c]) :: (.int .i64 (m : Int)) :: (.slice A zs.length cp) :: (.pointer (some ⟨gb, 0, none⟩)) :: u4 :: u5 :: u6 :: (.pointer (some ⟨b, 0, none⟩)) :: u8 :: (.int .i64 (((s + 1) : Nat) : Int)) :: v10 :: v11 :: v12 :: u13 :: u14 :: u15 :: u16 :: u17 :: u18 :: u19 :: u20 :: u21 :: u22 :: u23 :: v24 :: v25 :: v26 :: v27 :: v28 :: v29 :: v30 :: v31 :: v32 :: v33 :: v34 :: v35 :: v36 :: v37 :: v38 :: v39 :: v40 :: v41 :: v42 :: v43 :: v44 :: v45 :: v46 :: v47 :: v48 :: v49 :: v50 :: v51 :: v52 :: v53 :: v54 :: v55 :: v56 :: v57 :: v58 :: v59 :: v60 :: v61 :: v62 :: v63 :: v64 :: v65 :: u66 :: []), []⟩ V)
    (hX : ∀ (v10 v11 v12 v24 v25 v26 v27 v28 v29 v30 v31 v32 v33 v34 v35 v36 v37 v38 v39 v40 v41 v42 v43 v44 v45 v46 v47 v48 v49 v50 v51 v52 v53 v54 v55 v56 v57 v58 v59 v60 v61 v62 v63 v64 v65 : Value), (s = 16) → Q0 (.exit 0) ⟨List.toArray ((.agg #[.int .i64 l, .int .i64 (D : Int), .int .i64 c]) :: (.int .i64 (m : Int)) :: (.slice A zs.length cp) :: (.pointer (some ⟨gb, 0, none⟩)) :: u4 :: u5 :: u6 :: (.pointer (some ⟨b, 0, none⟩)) :: u8 :: (.int .i64 ((s : Nat) : Int)) :: v10 :: v11 :: v12 :: u13 :: u14 :: u15 :: u16 :: u17 :: u18 :: u19 :: u20 :: u21 :: u22 :: u23 :: v24 :: v25 :: v26 :: v27 :: v28 :: v29 :: v30 :: v31 :: v32 :: v33 :: v34 :: v35 :: v36 :: v37 :: v38 :: v39 :: v40 :: v41 :: v42 :: v43 :: v44 :: v45 :: v46 :: v47 :: v48 :: v49 :: v50 :: v51 :: v52 :: v53 :: v54 :: v55 :: v56 :: v57 :: v58 :: v59 :: v60 :: v61 :: v62 :: v63 :: v64 :: v65 :: u66 :: []), []⟩ w) :
    Code.wp Try.prog (sub [1, 1, 1, 0, 1, 0, 0] codeFld) (Exit.then K Q0) ⟨List.toArray ((.agg #[.int .i64 l, .int .i64 (D : Int), .int .i64 c]) :: (.int .i64 (m : Int)) :: (.slice A zs.length cp) :: (.pointer (some ⟨gb, 0, none⟩)) :: u4 :: u5 :: u6 :: (.pointer (some ⟨b, 0, none⟩)) :: u8 :: (.int .i64 ((s : Nat) : Int)) :: u10 :: u11 :: u12 :: u13 :: u14 :: u15 :: u16 :: u17 :: u18 :: u19 :: u20 :: u21 :: u22 :: u23 :: u24 :: u25 :: u26 :: u27 :: u28 :: u29 :: u30 :: u31 :: u32 :: u33 :: u34 :: u35 :: u36 :: u37 :: u38 :: u39 :: u40 :: u41 :: u42 :: u43 :: u44 :: u45 :: u46 :: u47 :: u48 :: u49 :: u50 :: u51 :: u52 :: u53 :: u54 :: u55 :: u56 :: u57 :: u58 :: u59 :: u60 :: u61 :: u62 :: u63 :: u64 :: u65 :: u66 :: []), []⟩ w := by
  have HK := Lib.hid hK
  have HX := Lib.hid hX
  clear hK hX
  conv => arg 2; whnf
  obtain ⟨hs, hk, hf⟩ := hI
  have Hk := Lib.hid hk
  have Hf := Lib.hid hf
  by_cases hlt : s < 16
  · have hs16 := hlt
    have i0 : (0 : Int) ≤ (s : Int) := by omega
    have i1 : (s : Int) < 16 := by omega
    have grs := gr.at hlt
    have hw7 := gr.w7
    have hd8 := gr.d8
    have HR := Lib.hid (fun V => refWidth_any l (D : Int) c V gr.l64 gr.d64 gr.c64)
    rw [gr.wd] at HR
    obtain ⟨k, hkk⟩ : ∃ k, min s zs.length = k := ⟨_, rfl⟩
    have hkl : k ≤ zs.length := by omega
    have hzl := hz.1
    have hmin : (if zs.length < s then (zs.length : Int) else (s : Int)) = (k : Int) := by split <;> omega
    have Hdt : Hid (datL zs s W = sectorsB (zs.drop k) W) := Lib.hid (by unfold datL; rw [hkk])
    have hbw : Below W0.heap.size W0 w := hk.bp.bel
    have CS := Lib.hid (fun V (hb : Below w.heap.size w V) => show Calls Try.prog 12 #[.slice (if cp = k then A else A.map (·.add k)) (zs.length - k) (cp - k), .int .i64 (W : Int)] V fun e w' => ∃ A' c', e = .returned (.slice A' W c') ∧ RdR w' w'.heap.size A' (datL zs s W) ∧ Below V.heap.size V w' from by
      rw [Hdt.out]
      have hb0 := hbw.trans (hb.mono hbw.size)
      refine (sectors_rd (A := if cp = k then A else A.map (·.add k)) (cp := cp - k) (show zs.length - k = (zs.drop k).length by simp) (((hz.below hb0 (Nat.le_refl _)).keep hb0.size (fun _ _ => rfl)).drop k cp hcp) (by omega)).mono ?_
      rintro e w' ⟨A', c', h1, _, h3, h4⟩
      exact ⟨A', c', h1, h3, h4⟩)
    have CF := Lib.hid (fun (A2 : Option Addr) (c2 : Nat) V (hrd : RdR V V.heap.size A2 (datL zs s W)) => refFill_good (cp := c2) hrd (datL_len zs s W) (grs.fok (datL_len zs s W) datL_mem) grs.eD rfl gr.l64 gr.d64 gr.c64 grs.r64)
    have H32 := Lib.hid (fun i (hi : i < D) => rowL_32 gr (zs := zs) hlt hi)
    obtain ⟨g1, g2, g3⟩ := hk.gat (List.mem_cons_self ..)
    have Hgb := Lib.hid (Array.getElem?_eq_some_iff.1 (hk.kx.kp _ (List.mem_cons_self ..)).1).1
    have k0 : (0 : Int) ≤ (k : Int) := by omega
    have k1 : (k : Int) ≤ (zs.length : Int) := by omega
    have k2 : (k : Int) ≤ (cp : Int) := by omega
    have hcap : (zs.length : Int) ≤ (cp : Int) := by omega
    clear HX hk hf hkk hbw hz gr grs
    by_cases hck : cp = k
    · rw [if_pos hck] at CS
      subst hck
      rw [show zs.length - cp = 0 by omega, Nat.sub_self] at CS
      go_wp2_with fail
      refine wp_region_noPanic (region_ord 17 [] (fun V => Below w.heap.size w V) (by kernel_rfl) (by kernel_rfl) (fun _ _ _ _ _ h => h) fun R => ?_)
      change anyI _ _ _ _ _ _ 17 _ _ w.drew
      have HS0 := Lib.hid (show (fun V => Below w.heap.size w V) w.drew from (Below.refl _ _).drew)
      refine' anyI_take R 0 rfl (v := ?_) (by kernel_rfl) (by rfl) (fun V hV => ?hy) HS0.out ?_
      case hy => ((try dsimp only at hV);  have y0 := (hV.cell (p := ⟨gb, 0, none⟩) Hgb.out).trans g1; have y1 := (hV.cell (p := ⟨gb, 1, none⟩) Hgb.out).trans g2; have y2 := (hV.cell (p := ⟨gb, 2, none⟩) Hgb.out).trans g3; go_simp; try with_reducible rfl)
      try simp only [Act.put, List.getElem_toArray, List.getElem_cons_succ, List.getElem_cons_zero, List.setIfInBounds_toArray, List.set_cons_zero, List.set_cons_succ]
      refine' anyI_take R 1 rfl (v := ?_) (by kernel_rfl) (by rfl) (fun V hV => ?hy) HS0.out ?_
      case hy => ((try dsimp only at hV);  have y0 := (hV.cell (p := ⟨gb, 0, none⟩) Hgb.out).trans g1; have y1 := (hV.cell (p := ⟨gb, 1, none⟩) Hgb.out).trans g2; have y2 := (hV.cell (p := ⟨gb, 2, none⟩) Hgb.out).trans g3; go_simp; try with_reducible rfl)
      try simp only [Act.put, List.getElem_toArray, List.getElem_cons_succ, List.getElem_cons_zero, List.setIfInBounds_toArray, List.set_cons_zero, List.set_cons_succ]
      refine' anyI_take R 2 rfl (v := ?_) (by kernel_rfl) (by rfl) (fun V hV => ?hy) HS0.out ?_
      case hy => ((try dsimp only at hV);  have y0 := (hV.cell (p := ⟨gb, 0, none⟩) Hgb.out).trans g1; have y1 := (hV.cell (p := ⟨gb, 1, none⟩) Hgb.out).trans g2; have y2 := (hV.cell (p := ⟨gb, 2, none⟩) Hgb.out).trans g3; go_simp; try with_reducible rfl)
      try simp only [Act.put, List.getElem_toArray, List.getElem_cons_succ, List.getElem_cons_zero, List.setIfInBounds_toArray, List.set_cons_zero, List.set_cons_succ]
      refine' anyI_take R 3 rfl (v := ?_) (by kernel_rfl) (by rfl) (fun V hV => ?hy) HS0.out ?_
      case hy => ((try dsimp only at hV);  have y0 := (hV.cell (p := ⟨gb, 0, none⟩) Hgb.out).trans g1; have y1 := (hV.cell (p := ⟨gb, 1, none⟩) Hgb.out).trans g2; have y2 := (hV.cell (p := ⟨gb, 2, none⟩) Hgb.out).trans g3; go_simp; try with_reducible rfl)
      try simp only [Act.put, List.getElem_toArray, List.getElem_cons_succ, List.getElem_cons_zero, List.setIfInBounds_toArray, List.set_cons_zero, List.set_cons_succ]
      refine' anyI_take R 4 rfl (v := ?_) (by kernel_rfl) (by rfl) (fun V hV => ?hy) HS0.out ?_
      case hy => ((try dsimp only at hV);  have y0 := (hV.cell (p := ⟨gb, 0, none⟩) Hgb.out).trans g1; have y1 := (hV.cell (p := ⟨gb, 1, none⟩) Hgb.out).trans g2; have y2 := (hV.cell (p := ⟨gb, 2, none⟩) Hgb.out).trans g3; go_simp; try with_reducible rfl)
      try simp only [Act.put, List.getElem_toArray, List.getElem_cons_succ, List.getElem_cons_zero, List.setIfInBounds_toArray, List.set_cons_zero, List.set_cons_succ]
      refine' anyI_take R 5 rfl (v := ?_) (by kernel_rfl) (by rfl) (fun V hV => ?hy) HS0.out ?_
      case hy => ((try dsimp only at hV);  have y0 := (hV.cell (p := ⟨gb, 0, none⟩) Hgb.out).trans g1; have y1 := (hV.cell (p := ⟨gb, 1, none⟩) Hgb.out).trans g2; have y2 := (hV.cell (p := ⟨gb, 2, none⟩) Hgb.out).trans g3; go_simp; try with_reducible rfl)
      try simp only [Act.put, List.getElem_toArray, List.getElem_cons_succ, List.getElem_cons_zero, List.setIfInBounds_toArray, List.set_cons_zero, List.set_cons_succ]
      refine' anyI_take R 6 rfl (v := ?_) (by kernel_rfl) (by rfl) (fun V hV => ?hy) HS0.out ?_
      case hy => ((try dsimp only at hV);  have y0 := (hV.cell (p := ⟨gb, 0, none⟩) Hgb.out).trans g1; have y1 := (hV.cell (p := ⟨gb, 1, none⟩) Hgb.out).trans g2; have y2 := (hV.cell (p := ⟨gb, 2, none⟩) Hgb.out).trans g3; go_simp; try with_reducible rfl)
      try simp only [Act.put, List.getElem_toArray, List.getElem_cons_succ, List.getElem_cons_zero, List.setIfInBounds_toArray, List.set_cons_zero, List.set_cons_succ]
      refine' anyI_take R 7 rfl (v := ?_) (by kernel_rfl) (by rfl) (fun V hV => ?hy) HS0.out ?_
      case hy => ((try dsimp only at hV);  have y0 := (hV.cell (p := ⟨gb, 0, none⟩) Hgb.out).trans g1; have y1 := (hV.cell (p := ⟨gb, 1, none⟩) Hgb.out).trans g2; have y2 := (hV.cell (p := ⟨gb, 2, none⟩) Hgb.out).trans g3; go_simp; try with_reducible rfl)
      try simp only [Act.put, List.getElem_toArray, List.getElem_cons_succ, List.getElem_cons_zero, List.setIfInBounds_toArray, List.set_cons_zero, List.set_cons_succ]
      refine' anyI_take R 8 rfl (v := ?_) (by kernel_rfl) (by rfl) (fun V hV => ?hy) HS0.out ?_
      case hy => ((try dsimp only at hV);  have y0 := (hV.cell (p := ⟨gb, 0, none⟩) Hgb.out).trans g1; have y1 := (hV.cell (p := ⟨gb, 1, none⟩) Hgb.out).trans g2; have y2 := (hV.cell (p := ⟨gb, 2, none⟩) Hgb.out).trans g3; go_simp; try with_reducible rfl)
      try simp only [Act.put, List.getElem_toArray, List.getElem_cons_succ, List.getElem_cons_zero, List.setIfInBounds_toArray, List.set_cons_zero, List.set_cons_succ]
      refine anyI_one 9 (by kernel_rfl) rfl ?_
      try simp only [List.getElem_toArray, List.getElem_cons_succ, List.getElem_cons_zero]
      refine opE_step ?_
      rw [if_pos (by rfl)]
      go_simp
      go_at_call 13
      (with_reducible refine (HR.out _).mono ?_)
      rintro e w9 ⟨rfl, hb9⟩
      replace HS0 := Lib.hid (show Below w.heap.size w w9 from HS0.out.trans (hb9.mono HS0.out.size))
      clear hb9
      try dsimp only
      refine ⟨HS0.out, ?_⟩
      try simp only [Act.put, List.getElem_toArray, List.getElem_cons_succ, List.getElem_cons_zero, List.setIfInBounds_toArray, List.set_cons_zero, List.set_cons_succ]
      refine anyI_one 10 (by kernel_rfl) rfl ?_
      try simp only [List.getElem_toArray, List.getElem_cons_succ, List.getElem_cons_zero]
      refine opE_step ?_
      rw [if_pos (by rfl)]
      go_simp
      go_at_call 12
      (with_reducible refine (CS.out _ HS0.out).mono ?_)
      rintro e w10 ⟨A2, c2, rfl, hrd, hb10⟩
      have CF1 := Lib.hid (CF.out A2 c2 _ hrd)
      replace HS0 := Lib.hid (show Below w.heap.size w w10 from HS0.out.trans (hb10.mono HS0.out.size))
      clear hb10 hrd
      try dsimp only
      refine ⟨HS0.out, ?_⟩
      try simp only [Act.put, List.getElem_toArray, List.getElem_cons_succ, List.getElem_cons_zero, List.setIfInBounds_toArray, List.set_cons_zero, List.set_cons_succ]
      refine anyI_one 11 (by kernel_rfl) rfl ?_
      try simp only [List.getElem_toArray, List.getElem_cons_succ, List.getElem_cons_zero]
      refine opE_step ?_
      rw [if_pos (by rfl)]
      go_simp
      go_at_call 32
      have hsz := HS0.out.size
      (with_reducible refine CF1.out.mono ?_)
      rintro e w11 ⟨g, xs, rfl, hq, hb11⟩
      replace HS0 := Lib.hid (show Below w.heap.size w w11 from HS0.out.trans (hb11.mono HS0.out.size))
      have Hrf := Lib.hid (show RdF w.heap.size w11 (some ⟨g, 0, none⟩) (rowL l c D W zs s) from (hq.le hsz).rdf (by omega))
      clear hb11 hq
      try dsimp only
      refine ⟨HS0.out, ?_⟩
      try simp only [Act.put, List.getElem_toArray, List.getElem_cons_succ, List.getElem_cons_zero, List.setIfInBounds_toArray, List.set_cons_zero, List.set_cons_succ]
      refine' anyI_take R 12 rfl (v := ?_) (by kernel_rfl) (by rfl) (fun V hV => ?hy) HS0.out ?_
      case hy => ((try dsimp only at hV);  have y0 := (hV.cell (p := ⟨gb, 0, none⟩) Hgb.out).trans g1; have y1 := (hV.cell (p := ⟨gb, 1, none⟩) Hgb.out).trans g2; have y2 := (hV.cell (p := ⟨gb, 2, none⟩) Hgb.out).trans g3; go_simp; try with_reducible rfl)
      try simp only [Act.put, List.getElem_toArray, List.getElem_cons_succ, List.getElem_cons_zero, List.setIfInBounds_toArray, List.set_cons_zero, List.set_cons_succ]
      refine' anyI_take R 13 rfl (v := ?_) (by kernel_rfl) (by rfl) (fun V hV => ?hy) HS0.out ?_
      case hy => ((try dsimp only at hV);  have y0 := (hV.cell (p := ⟨gb, 0, none⟩) Hgb.out).trans g1; have y1 := (hV.cell (p := ⟨gb, 1, none⟩) Hgb.out).trans g2; have y2 := (hV.cell (p := ⟨gb, 2, none⟩) Hgb.out).trans g3; go_simp; try with_reducible rfl)
      try simp only [Act.put, List.getElem_toArray, List.getElem_cons_succ, List.getElem_cons_zero, List.setIfInBounds_toArray, List.set_cons_zero, List.set_cons_succ]
      refine' anyI_take R 14 rfl (v := ?_) (by kernel_rfl) (by rfl) (fun V hV => ?hy) HS0.out ?_
      case hy => ((try dsimp only at hV);  have y0 := (hV.cell (p := ⟨gb, 0, none⟩) Hgb.out).trans g1; have y1 := (hV.cell (p := ⟨gb, 1, none⟩) Hgb.out).trans g2; have y2 := (hV.cell (p := ⟨gb, 2, none⟩) Hgb.out).trans g3; go_simp; try with_reducible rfl)
      try simp only [Act.put, List.getElem_toArray, List.getElem_cons_succ, List.getElem_cons_zero, List.setIfInBounds_toArray, List.set_cons_zero, List.set_cons_succ]
      refine' anyI_take R 15 rfl (v := ?_) (by kernel_rfl) (by rfl) (fun V hV => ?hy) HS0.out ?_
      case hy => ((try dsimp only at hV);  have y0 := (hV.cell (p := ⟨gb, 0, none⟩) Hgb.out).trans g1; have y1 := (hV.cell (p := ⟨gb, 1, none⟩) Hgb.out).trans g2; have y2 := (hV.cell (p := ⟨gb, 2, none⟩) Hgb.out).trans g3; go_simp; try with_reducible rfl)
      try simp only [Act.put, List.getElem_toArray, List.getElem_cons_succ, List.getElem_cons_zero, List.setIfInBounds_toArray, List.set_cons_zero, List.set_cons_succ]
      refine' anyI_take R 16 rfl (v := ?_) (by kernel_rfl) (by rfl) (fun V hV => ?hy) HS0.out ?_
      case hy => ((try dsimp only at hV);  have y0 := (hV.cell (p := ⟨gb, 0, none⟩) Hgb.out).trans g1; have y1 := (hV.cell (p := ⟨gb, 1, none⟩) Hgb.out).trans g2; have y2 := (hV.cell (p := ⟨gb, 2, none⟩) Hgb.out).trans g3; go_simp; try with_reducible rfl)
      try simp only [Act.put, List.getElem_toArray, List.getElem_cons_succ, List.getElem_cons_zero, List.setIfInBounds_toArray, List.set_cons_zero, List.set_cons_succ]
      refine anyI_tail (by kernel_rfl) ?_
      try simp only [List.drop_succ_cons, List.drop_zero]
      clear R
      go_wp2_with fail
      refine NoPanic.normal ?_
      have F2 := HS0.out
      have Hks := Lib.hid (Hk.out.rows F2 Hrf.out)
      clear F2
      go_upto_block 2 with fail
      refine wp_block ?_
      refine flI _ _ _ _ _ _ _ _ _ _ _ _ _ _ _ _ _ _ _ _ _ _ _ _ _ _ _ _ _ _ _ _ _ _ _ _ _ _ _ _ _ _ _ _ _ _ _ _ _ _ _ _ _ _ _ _ _ _ _ _ _ _ hs16 hD hm (rowL_len _ _ _ _ _ _) H32.out ⟨Nat.zero_le _, Hks.out, Hf.out⟩ (fun v43 v44 v45 v46 v47 v48 v49 v50 v51 v52 v53 v54 v55 v56 v57 v58 v59 v60 v61 v62 v63 v64 v65 j H3 N3 V3 hI3 hx3 => ?_)
      subst hx3
      have K3 := Lib.hid (hI3.2.1.less (R' := []) (S' := []) (fun _ h => h) (fun _ h => absurd h (by simp)) (fun _ h => h))
      have F3 := Lib.hid (fld_next hI3.2.2)
      clear hI3
      go_wp2_with fail
      exact HK.out _ _ _ _ _ _ _ _ _ _ _ _ _ _ _ _ _ _ _ _ _ _ _ _ _ _ _ _ _ _ _ _ _ _ _ _ _ _ _ _ _ _ _ _ _ H3 N3 _ ⟨by omega, K3.out, F3.out⟩ (by omega)
    · rw [if_neg hck] at CS
      go_wp2_with fail
      refine wp_region_noPanic (region_ord 17 [] (fun V => Below w.heap.size w V) (by kernel_rfl) (by kernel_rfl) (fun _ _ _ _ _ h => h) fun R => ?_)
      change anyI _ _ _ _ _ _ 17 _ _ w.drew
      have HS0 := Lib.hid (show (fun V => Below w.heap.size w V) w.drew from (Below.refl _ _).drew)
      refine' anyI_take R 0 rfl (v := ?_) (by kernel_rfl) (by rfl) (fun V hV => ?hy) HS0.out ?_
      case hy => ((try dsimp only at hV);  have y0 := (hV.cell (p := ⟨gb, 0, none⟩) Hgb.out).trans g1; have y1 := (hV.cell (p := ⟨gb, 1, none⟩) Hgb.out).trans g2; have y2 := (hV.cell (p := ⟨gb, 2, none⟩) Hgb.out).trans g3; go_simp; try with_reducible rfl)
      try simp only [Act.put, List.getElem_toArray, List.getElem_cons_succ, List.getElem_cons_zero, List.setIfInBounds_toArray, List.set_cons_zero, List.set_cons_succ]
      refine' anyI_take R 1 rfl (v := ?_) (by kernel_rfl) (by rfl) (fun V hV => ?hy) HS0.out ?_
      case hy => ((try dsimp only at hV);  have y0 := (hV.cell (p := ⟨gb, 0, none⟩) Hgb.out).trans g1; have y1 := (hV.cell (p := ⟨gb, 1, none⟩) Hgb.out).trans g2; have y2 := (hV.cell (p := ⟨gb, 2, none⟩) Hgb.out).trans g3; go_simp; try with_reducible rfl)
      try simp only [Act.put, List.getElem_toArray, List.getElem_cons_succ, List.getElem_cons_zero, List.setIfInBounds_toArray, List.set_cons_zero, List.set_cons_succ]
      refine' anyI_take R 2 rfl (v := ?_) (by kernel_rfl) (by rfl) (fun V hV => ?hy) HS0.out ?_
      case hy => ((try dsimp only at hV);  have y0 := (hV.cell (p := ⟨gb, 0, none⟩) Hgb.out).trans g1; have y1 := (hV.cell (p := ⟨gb, 1, none⟩) Hgb.out).trans g2; have y2 := (hV.cell (p := ⟨gb, 2, none⟩) Hgb.out).trans g3; go_simp; try with_reducible rfl)
      try simp only [Act.put, List.getElem_toArray, List.getElem_cons_succ, List.getElem_cons_zero, List.setIfInBounds_toArray, List.set_cons_zero, List.set_cons_succ]
      refine' anyI_take R 3 rfl (v := ?_) (by kernel_rfl) (by rfl) (fun V hV => ?hy) HS0.out ?_
      case hy => ((try dsimp only at hV);  have y0 := (hV.cell (p := ⟨gb, 0, none⟩) Hgb.out).trans g1; have y1 := (hV.cell (p := ⟨gb, 1, none⟩) Hgb.out).trans g2; have y2 := (hV.cell (p := ⟨gb, 2, none⟩) Hgb.out).trans g3; go_simp; try with_reducible rfl)
      try simp only [Act.put, List.getElem_toArray, List.getElem_cons_succ, List.getElem_cons_zero, List.setIfInBounds_toArray, List.set_cons_zero, List.set_cons_succ]
      refine' anyI_take R 4 rfl (v := ?_) (by kernel_rfl) (by rfl) (fun V hV => ?hy) HS0.out ?_
      case hy => ((try dsimp only at hV);  have y0 := (hV.cell (p := ⟨gb, 0, none⟩) Hgb.out).trans g1; have y1 := (hV.cell (p := ⟨gb, 1, none⟩) Hgb.out).trans g2; have y2 := (hV.cell (p := ⟨gb, 2, none⟩) Hgb.out).trans g3; go_simp; try with_reducible rfl)
      try simp only [Act.put, List.getElem_toArray, List.getElem_cons_succ, List.getElem_cons_zero, List.setIfInBounds_toArray, List.set_cons_zero, List.set_cons_succ]
      refine' anyI_take R 5 rfl (v := ?_) (by kernel_rfl) (by rfl) (fun V hV => ?hy) HS0.out ?_
      case hy => ((try dsimp only at hV);  have y0 := (hV.cell (p := ⟨gb, 0, none⟩) Hgb.out).trans g1; have y1 := (hV.cell (p := ⟨gb, 1, none⟩) Hgb.out).trans g2; have y2 := (hV.cell (p := ⟨gb, 2, none⟩) Hgb.out).trans g3; go_simp; try with_reducible rfl)
      try simp only [Act.put, List.getElem_toArray, List.getElem_cons_succ, List.getElem_cons_zero, List.setIfInBounds_toArray, List.set_cons_zero, List.set_cons_succ]
      refine' anyI_take R 6 rfl (v := ?_) (by kernel_rfl) (by rfl) (fun V hV => ?hy) HS0.out ?_
      case hy => ((try dsimp only at hV);  have y0 := (hV.cell (p := ⟨gb, 0, none⟩) Hgb.out).trans g1; have y1 := (hV.cell (p := ⟨gb, 1, none⟩) Hgb.out).trans g2; have y2 := (hV.cell (p := ⟨gb, 2, none⟩) Hgb.out).trans g3; go_simp; try with_reducible rfl)
      try simp only [Act.put, List.getElem_toArray, List.getElem_cons_succ, List.getElem_cons_zero, List.setIfInBounds_toArray, List.set_cons_zero, List.set_cons_succ]
      refine' anyI_take R 7 rfl (v := ?_) (by kernel_rfl) (by rfl) (fun V hV => ?hy) HS0.out ?_
      case hy => ((try dsimp only at hV);  have y0 := (hV.cell (p := ⟨gb, 0, none⟩) Hgb.out).trans g1; have y1 := (hV.cell (p := ⟨gb, 1, none⟩) Hgb.out).trans g2; have y2 := (hV.cell (p := ⟨gb, 2, none⟩) Hgb.out).trans g3; go_simp; try with_reducible rfl)
      try simp only [Act.put, List.getElem_toArray, List.getElem_cons_succ, List.getElem_cons_zero, List.setIfInBounds_toArray, List.set_cons_zero, List.set_cons_succ]
      refine' anyI_take R 8 rfl (v := ?_) (by kernel_rfl) (by rfl) (fun V hV => ?hy) HS0.out ?_
      case hy => ((try dsimp only at hV);  have y0 := (hV.cell (p := ⟨gb, 0, none⟩) Hgb.out).trans g1; have y1 := (hV.cell (p := ⟨gb, 1, none⟩) Hgb.out).trans g2; have y2 := (hV.cell (p := ⟨gb, 2, none⟩) Hgb.out).trans g3; go_simp; try with_reducible rfl)
      try simp only [Act.put, List.getElem_toArray, List.getElem_cons_succ, List.getElem_cons_zero, List.setIfInBounds_toArray, List.set_cons_zero, List.set_cons_succ]
      refine anyI_one 9 (by kernel_rfl) rfl ?_
      try simp only [List.getElem_toArray, List.getElem_cons_succ, List.getElem_cons_zero]
      refine opE_step ?_
      rw [if_pos (by rfl)]
      go_simp
      go_at_call 13
      (with_reducible refine (HR.out _).mono ?_)
      rintro e w9 ⟨rfl, hb9⟩
      replace HS0 := Lib.hid (show Below w.heap.size w w9 from HS0.out.trans (hb9.mono HS0.out.size))
      clear hb9
      try dsimp only
      refine ⟨HS0.out, ?_⟩
      try simp only [Act.put, List.getElem_toArray, List.getElem_cons_succ, List.getElem_cons_zero, List.setIfInBounds_toArray, List.set_cons_zero, List.set_cons_succ]
      refine anyI_one 10 (by kernel_rfl) rfl ?_
      try simp only [List.getElem_toArray, List.getElem_cons_succ, List.getElem_cons_zero]
      refine opE_step ?_
      rw [if_pos (by rfl)]
      go_simp
      go_at_call 12
      (with_reducible refine (CS.out _ HS0.out).mono ?_)
      rintro e w10 ⟨A2, c2, rfl, hrd, hb10⟩
      have CF1 := Lib.hid (CF.out A2 c2 _ hrd)
      replace HS0 := Lib.hid (show Below w.heap.size w w10 from HS0.out.trans (hb10.mono HS0.out.size))
      clear hb10 hrd
      try dsimp only
      refine ⟨HS0.out, ?_⟩
      try simp only [Act.put, List.getElem_toArray, List.getElem_cons_succ, List.getElem_cons_zero, List.setIfInBounds_toArray, List.set_cons_zero, List.set_cons_succ]
      refine anyI_one 11 (by kernel_rfl) rfl ?_
      try simp only [List.getElem_toArray, List.getElem_cons_succ, List.getElem_cons_zero]
      refine opE_step ?_
      rw [if_pos (by rfl)]
      go_simp
      go_at_call 32
      have hsz := HS0.out.size
      (with_reducible refine CF1.out.mono ?_)
      rintro e w11 ⟨g, xs, rfl, hq, hb11⟩
      replace HS0 := Lib.hid (show Below w.heap.size w w11 from HS0.out.trans (hb11.mono HS0.out.size))
      have Hrf := Lib.hid (show RdF w.heap.size w11 (some ⟨g, 0, none⟩) (rowL l c D W zs s) from (hq.le hsz).rdf (by omega))
      clear hb11 hq
      try dsimp only
      refine ⟨HS0.out, ?_⟩
      try simp only [Act.put, List.getElem_toArray, List.getElem_cons_succ, List.getElem_cons_zero, List.setIfInBounds_toArray, List.set_cons_zero, List.set_cons_succ]
      refine' anyI_take R 12 rfl (v := ?_) (by kernel_rfl) (by rfl) (fun V hV => ?hy) HS0.out ?_
      case hy => ((try dsimp only at hV);  have y0 := (hV.cell (p := ⟨gb, 0, none⟩) Hgb.out).trans g1; have y1 := (hV.cell (p := ⟨gb, 1, none⟩) Hgb.out).trans g2; have y2 := (hV.cell (p := ⟨gb, 2, none⟩) Hgb.out).trans g3; go_simp; try with_reducible rfl)
      try simp only [Act.put, List.getElem_toArray, List.getElem_cons_succ, List.getElem_cons_zero, List.setIfInBounds_toArray, List.set_cons_zero, List.set_cons_succ]
      refine' anyI_take R 13 rfl (v := ?_) (by kernel_rfl) (by rfl) (fun V hV => ?hy) HS0.out ?_
      case hy => ((try dsimp only at hV);  have y0 := (hV.cell (p := ⟨gb, 0, none⟩) Hgb.out).trans g1; have y1 := (hV.cell (p := ⟨gb, 1, none⟩) Hgb.out).trans g2; have y2 := (hV.cell (p := ⟨gb, 2, none⟩) Hgb.out).trans g3; go_simp; try with_reducible rfl)
      try simp only [Act.put, List.getElem_toArray, List.getElem_cons_succ, List.getElem_cons_zero, List.setIfInBounds_toArray, List.set_cons_zero, List.set_cons_succ]
      refine' anyI_take R 14 rfl (v := ?_) (by kernel_rfl) (by rfl) (fun V hV => ?hy) HS0.out ?_
      case hy => ((try dsimp only at hV);  have y0 := (hV.cell (p := ⟨gb, 0, none⟩) Hgb.out).trans g1; have y1 := (hV.cell (p := ⟨gb, 1, none⟩) Hgb.out).trans g2; have y2 := (hV.cell (p := ⟨gb, 2, none⟩) Hgb.out).trans g3; go_simp; try with_reducible rfl)
      try simp only [Act.put, List.getElem_toArray, List.getElem_cons_succ, List.getElem_cons_zero, List.setIfInBounds_toArray, List.set_cons_zero, List.set_cons_succ]
      refine' anyI_take R 15 rfl (v := ?_) (by kernel_rfl) (by rfl) (fun V hV => ?hy) HS0.out ?_
      case hy => ((try dsimp only at hV);  have y0 := (hV.cell (p := ⟨gb, 0, none⟩) Hgb.out).trans g1; have y1 := (hV.cell (p := ⟨gb, 1, none⟩) Hgb.out).trans g2; have y2 := (hV.cell (p := ⟨gb, 2, none⟩) Hgb.out).trans g3; go_simp; try with_reducible rfl)
      try simp only [Act.put, List.getElem_toArray, List.getElem_cons_succ, List.getElem_cons_zero, List.setIfInBounds_toArray, List.set_cons_zero, List.set_cons_succ]
      refine' anyI_take R 16 rfl (v := ?_) (by kernel_rfl) (by rfl) (fun V hV => ?hy) HS0.out ?_
      case hy => ((try dsimp only at hV);  have y0 := (hV.cell (p := ⟨gb, 0, none⟩) Hgb.out).trans g1; have y1 := (hV.cell (p := ⟨gb, 1, none⟩) Hgb.out).trans g2; have y2 := (hV.cell (p := ⟨gb, 2, none⟩) Hgb.out).trans g3; go_simp; try with_reducible rfl)
      try simp only [Act.put, List.getElem_toArray, List.getElem_cons_succ, List.getElem_cons_zero, List.setIfInBounds_toArray, List.set_cons_zero, List.set_cons_succ]
      refine anyI_tail (by kernel_rfl) ?_
      try simp only [List.drop_succ_cons, List.drop_zero]
      clear R
      go_wp2_with fail
      refine NoPanic.normal ?_
      have F2 := HS0.out
      have Hks := Lib.hid (Hk.out.rows F2 Hrf.out)
      clear F2
      go_upto_block 2 with fail
      refine wp_block ?_
      refine flI _ _ _ _ _ _ _ _ _ _ _ _ _ _ _ _ _ _ _ _ _ _ _ _ _ _ _ _ _ _ _ _ _ _ _ _ _ _ _ _ _ _ _ _ _ _ _ _ _ _ _ _ _ _ _ _ _ _ _ _ _ _ hs16 hD hm (rowL_len _ _ _ _ _ _) H32.out ⟨Nat.zero_le _, Hks.out, Hf.out⟩ (fun v43 v44 v45 v46 v47 v48 v49 v50 v51 v52 v53 v54 v55 v56 v57 v58 v59 v60 v61 v62 v63 v64 v65 j H3 N3 V3 hI3 hx3 => ?_)
      subst hx3
      have K3 := Lib.hid (hI3.2.1.less (R' := []) (S' := []) (fun _ h => h) (fun _ h => absurd h (by simp)) (fun _ h => h))
      have F3 := Lib.hid (fld_next hI3.2.2)
      clear hI3
      go_wp2_with fail
      exact HK.out _ _ _ _ _ _ _ _ _ _ _ _ _ _ _ _ _ _ _ _ _ _ _ _ _ _ _ _ _ _ _ _ _ _ _ _ _ _ _ _ _ _ _ _ _ H3 N3 _ ⟨by omega, K3.out, F3.out⟩ (by omega)
  · have i1 : ¬ (s : Int) < 16 := by omega
    have Hin := Lib.hid (show s = 16 by omega)
    clear HK hk hf
    go_wp2_with fail
    exact HX.out _ _ _ _ _ _ _ _ _ _ _ _ _ _ _ _ _ _ _ _ _ _ _ _ _ _ _ _ _ _ _ _ _ _ _ _ _ _ _ _ _ _ _ _ _ Hin.out
set_option maxRecDepth 100000 in
set_option maxHeartbeats 3200000 in
theorem flO {W0 : World} {n l c r : Int} {D F W m b gb cp : Nat} {A : Option Addr} {zs : List Int} {H0 : BH} {N0 : Bch} {w : World} (u4 u5 u6 u8 u10 u11 u12 u13 u14 u15 u16 u17 u18 u19 u20 u21 u22 u23 u24 u25 u26 u27 u28 u29 u30 u31 u32 u33 u34 u35 u36 u37 u38 u39 u40 u41 u42 u43 u44 u45 u46 u47 u48 u49 u50 u51 u52 u53 u54 u55 u56 u57 u58 u59 u60 u61 u62 u63 u64 u65 u66 : Value) (Q : Exit → Act → World → Prop) (gr : Gr n l c r D F W) (hD : D ≤ m) (hm : m ≤ 8) (hz : RdZ W0 W0.heap.size A zs) (hcp : zs.length ≤ cp) (hI : (0 ≤ 16 ∧ KS W0 w b H0 N0 [(gb, Obj.cells #[.int .i64 l, .int .i64 (D : Int), .int .i64 c] 24 (0, 0))] [] [] ∧ Fld N0 m D (rowL l c D W zs) 0 0))
    (hX : ∀ (v10 v11 v12 v24 v25 v26 v27 v28 v29 v30 v31 v32 v33 v34 v35 v36 v37 v38 v39 v40 v41 v42 v43 v44 v45 v46 v47 v48 v49 v50 v51 v52 v53 v54 v55 v56 v57 v58 v59 v60 v61 v62 v63 v64 v65 : Value) (s : Nat) (H : BH) (N : Bch) (V : World), (s ≤ 16 ∧ KS W0 V b H N [(gb, Obj.cells #[.int .i64 l, .int .i64 (D : Int), .int .i64 c] 24 (0, 0))] [] [] ∧ Fld N m D (rowL l c D W zs) s 0) → (s = 16) → Q (.exit 0) ⟨List.toArray ((.agg #[.int .i64 l, .int .i64 (D : Int), .int .i64 c]) :: (.int .i64 (m : Int)) :: (.slice A zs.length cp) :: (.pointer (some ⟨gb, 0, none⟩)) :: u4 :: u5 :: u6 :: (.pointer (some ⟨b, 0, none⟩)) :: u8 :: (.int .i64 ((s : Nat) : Int)) :: v10 :: v11 :: v12 :: u13 :: u14 :: u15 :: u16 :: u17 :: u18 :: u19 :: u20 :: u21 :: u22 :: u23 :: v24 :: v25 :: v26 :: v27 :: v28 :: v29 :: v30 :: v31 :: v32 :: v33 :: v34 :: v35 :: v36 :: v37 :: v38 :: v39 :: v40 :: v41 :: v42 :: v43 :: v44 :: v45 :: v46 :: v47 :: v48 :: v49 :: v50 :: v51 :: v52 :: v53 :: v54 :: v55 :: v56 :: v57 :: v58 :: v59 :: v60 :: v61 :: v62 :: v63 :: v64 :: v65 :: u66 :: []), []⟩ V) :
    Code.wp Try.prog (.loop (sub [1, 1, 1, 0, 1, 0, 0] codeFld)) Q ⟨List.toArray ((.agg #[.int .i64 l, .int .i64 (D : Int), .int .i64 c]) :: (.int .i64 (m : Int)) :: (.slice A zs.length cp) :: (.pointer (some ⟨gb, 0, none⟩)) :: u4 :: u5 :: u6 :: (.pointer (some ⟨b, 0, none⟩)) :: u8 :: (.int .i64 ((0 : Nat) : Int)) :: u10 :: u11 :: u12 :: u13 :: u14 :: u15 :: u16 :: u17 :: u18 :: u19 :: u20 :: u21 :: u22 :: u23 :: u24 :: u25 :: u26 :: u27 :: u28 :: u29 :: u30 :: u31 :: u32 :: u33 :: u34 :: u35 :: u36 :: u37 :: u38 :: u39 :: u40 :: u41 :: u42 :: u43 :: u44 :: u45 :: u46 :: u47 :: u48 :: u49 :: u50 :: u51 :: u52 :: u53 :: u54 :: u55 :: u56 :: u57 :: u58 :: u59 :: u60 :: u61 :: u62 :: u63 :: u64 :: u65 :: u66 :: []), []⟩ w := by
  refine wp_loop_ghost (fun gk a V => ∀ C : Prop, (∀ (u10 u11 u12 u24 u25 u26 u27 u28 u29 u30 u31 u32 u33 u34 u35 u36 u37 u38 u39 u40 u41 u42 u43 u44 u45 u46 u47 u48 u49 u50 u51 u52 u53 u54 u55 u56 u57 u58 u59 u60 u61 u62 u63 u64 u65 : Value) (s : Nat) (H : BH) (N : Bch), gk = 16 - s → (s ≤ 16 ∧ KS W0 V b H N [(gb, Obj.cells #[.int .i64 l, .int .i64 (D : Int), .int .i64 c] 24 (0, 0))] [] [] ∧ Fld N m D (rowL l c D W zs) s 0) → a = ⟨List.toArray ((.agg #[.int .i64 l, .int .i64 (D : Int), .int .i64 c]) :: (.int .i64 (m : Int)) :: (.slice A zs.length cp) :: (.pointer (some ⟨gb, 0, none⟩)) :: u4 :: u5 :: u6 :: (.pointer (some ⟨b, 0, none⟩)) :: u8 :: (.int .i64 ((s : Nat) : Int)) :: u10 :: u11 :: u12 :: u13 :: u14 :: u15 :: u16 :: u17 :: u18 :: u19 :: u20 :: u21 :: u22 :: u23 :: u24 :: u25 :: u26 :: u27 :: u28 :: u29 :: u30 :: u31 :: u32 :: u33 :: u34 :: u35 :: u36 :: u37 :: u38 :: u39 :: u40 :: u41 :: u42 :: u43 :: u44 :: u45 :: u46 :: u47 :: u48 :: u49 :: u50 :: u51 :: u52 :: u53 :: u54 :: u55 :: u56 :: u57 :: u58 :: u59 :: u60 :: u61 :: u62 :: u63 :: u64 :: u65 :: u66 :: []), []⟩ → C) → C) (16 - 0) ?_ ?_
  · intro C hC
    exact hC _ _ _ _ _ _ _ _ _ _ _ _ _ _ _ _ _ _ _ _ _ _ _ _ _ _ _ _ _ _ _ _ _ _ _ _ _ _ _ _ _ _ _ _ _ (0) (H0) (N0) rfl hI rfl
  · intro gk a V hI'
    refine hI' _ ?_
    intro u10 u11 u12 u24 u25 u26 u27 u28 u29 u30 u31 u32 u33 u34 u35 u36 u37 u38 u39 u40 u41 u42 u43 u44 u45 u46 u47 u48 u49 u50 u51 u52 u53 u54 u55 u56 u57 u58 u59 u60 u61 u62 u63 u64 u65 s H N hk hinv ha
    subst ha
    subst hk
    refine flOb _ _ _ _ _ _ _ _ _ _ _ _ _ _ _ _ _ _ _ _ _ _ _ _ _ _ _ _ _ _ _ _ _ _ _ _ _ _ _ _ _ _ _ _ _ _ _ _ _ _ _ _ _ _ _ _ _ _ _ _ _ _ _ gr hD hm hz hcp hinv (fun v10 v11 v12 v24 v25 v26 v27 v28 v29 v30 v31 v32 v33 v34 v35 v36 v37 v38 v39 v40 v41 v42 v43 v44 v45 v46 v47 v48 v49 v50 v51 v52 v53 v54 v55 v56 v57 v58 v59 v60 v61 v62 v63 v64 v65 H2 N2 V2 h2 hm => ?_) (fun v10 v11 v12 v24 v25 v26 v27 v28 v29 v30 v31 v32 v33 v34 v35 v36 v37 v38 v39 v40 v41 v42 v43 v44 v45 v46 v47 v48 v49 v50 v51 v52 v53 v54 v55 v56 v57 v58 v59 v60 v61 v62 v63 v64 v65 hx => hX v10 v11 v12 v24 v25 v26 v27 v28 v29 v30 v31 v32 v33 v34 v35 v36 v37 v38 v39 v40 v41 v42 v43 v44 v45 v46 v47 v48 v49 v50 v51 v52 v53 v54 v55 v56 v57 v58 v59 v60 v61 v62 v63 v64 v65 s H N V hinv hx)
    refine ⟨_, hm, fun C hC => ?_⟩
    exact hC v10 v11 v12 v24 v25 v26 v27 v28 v29 v30 v31 v32 v33 v34 v35 v36 v37 v38 v39 v40 v41 v42 v43 v44 v45 v46 v47 v48 v49 v50 v51 v52 v53 v54 v55 v56 v57 v58 v59 v60 v61 v62 v63 v64 v65 ((s + 1)) (H2) (N2) rfl h2 rfl
theorem KS.open {W w w' : World} {b : Nat} {H : BH} {N : Bch} (h : KS w w' b H N [] [] []) (hb : Below W.heap.size W w) {g : Nat} {o : Obj} (hg : w.heap[g]? = some o) (hW : W.heap.size ≤ g) : KS W w' b H N [(g, o)] [] [] := by
  have hlt := (Array.getElem?_eq_some_iff.1 hg).1
  refine ⟨⟨⟨h.bp.at'.mono hb.size, hb.trans (h.bp.bel.mono hb.size)⟩, fun p hp => ?_⟩, fun _ hp => absurd hp (by simp), fun _ hp => absurd hp (by simp)⟩
  rw [List.mem_singleton.1 hp]
  exact ⟨(h.bp.bel.block g hlt).trans hg, fun e => by have := (h.bp.at'.flt e).1; omega, hW⟩
set_option maxRecDepth 100000 in
set_option maxHeartbeats 3200000 in
theorem stpFilled_any {n l c r : Int} {D F W : Nat} (gr : Gr n l c r D F W) (m : Nat) (hD : D ≤ m) (hm : m ≤ 8) (A : Option Addr) (zs : List Int) (k cp : Nat) (w : World) (hk : k = zs.length) (hcp : zs.length ≤ cp) (hz : RdZ w w.heap.size A zs) :
    Calls Try.prog 9 #[.agg #[.int .i64 l, .int .i64 (D : Int), .int .i64 c], .int .i64 (m : Int), .slice A k cp] w fun e w' => ∃ b H N, e = .returned (.pointer (some ⟨b, 0, none⟩)) ∧ KS w w' b H N [] [] [] ∧ Fld N m D (rowL l c D W zs) 16 0 := by
  subst hk
  have hpn := ptr_eq
  have hd3 := gr.d3
  have B1 := below1 w (.cells #[.int .i64 l, .int .i64 (D : Int), .int .i64 c] 24)
  have CN := Lib.hid (bp_new m w _ B1 (by omega))
  have hz1 : (w.alloc (.cells #[.int .i64 l, .int .i64 (D : Int), .int .i64 c] 24)).heap.size = w.heap.size + 1 := by simp
  have hh := hp_new w (.cells #[.int .i64 l, .int .i64 (D : Int), .int .i64 c] 24) _ rfl
  have Gr' := Lib.hid gr
  have Hz := Lib.hid hz
  clear gr hz B1
  go_enter Try.func9, Try.ntmps9
  go_wp2_with fail
  refine CN.out.mono ?_
  rintro e w1 ⟨b, H, rfl, hp, hb1, hlo⟩
  unfold ptr
  have HK0 := Lib.hid (show KS w w1 b H (Bch.new m) [(w.heap.size, Obj.cells #[.int .i64 l, .int .i64 (D : Int), .int .i64 c] 24 (0, 0))] [] [] from by
    refine ⟨⟨hp, fun p hp' => ?_⟩, fun _ hp => absurd hp (by simp), fun _ hp => absurd hp (by simp)⟩
    rw [List.mem_singleton.1 hp']
    exact ⟨(hb1.block w.heap.size (by rw [hz1]; omega)).trans hh, fun e => by have := hlo _ e; rw [hz1] at this; omega, Nat.le_refl _⟩)
  have HF0 := Lib.hid (fld_new m D (rowL l c D W zs))
  clear hp hb1 hlo hh CN
  go_upto_block 0 with fail
  refine wp_block ?_
  refine flO _ _ _ _ _ _ _ _ _ _ _ _ _ _ _ _ _ _ _ _ _ _ _ _ _ _ _ _ _ _ _ _ _ _ _ _ _ _ _ _ _ _ _ _ _ _ _ _ _ _ _ _ _ _ _ _ _ _ _ _ _ _ Gr'.out hD hm Hz.out hcp ⟨Nat.zero_le _, HK0.out, HF0.out⟩ (fun v10 v11 v12 v24 v25 v26 v27 v28 v29 v30 v31 v32 v33 v34 v35 v36 v37 v38 v39 v40 v41 v42 v43 v44 v45 v46 v47 v48 v49 v50 v51 v52 v53 v54 v55 v56 v57 v58 v59 v60 v61 v62 v63 v64 v65 s H2 N2 V2 hI hx => ?_)
  subst hx
  have HK2 := Lib.hid (hI.2.1.less (K' := []) (R' := []) (S' := []) (fun _ h => absurd h (by simp)) (fun _ h => h) (fun _ h => h))
  have HF2 := Lib.hid hI.2.2
  clear hI
  go_wp2_with fail
  go_ret
  exact ⟨b, H2, N2, rfl, HK2.out, HF2.out⟩
end Go.Proofs.Ytadfimimkkimmaa
end
section
set_option linter.unusedVariables false
set_option linter.unusedSimpArgs false
namespace Go.Proofs.Ytadfimimkkimmaa

theorem len_le_map {f : Nat → Nat} : ∀ {l1 l2 : List Nat}, l1.Nodup → (∀ a ∈ l1, ∀ b ∈ l1, f a = f b → a = b) → (∀ a ∈ l1, f a ∈ l2) → l1.length ≤ l2.length
  | [], _, _, _, _ => Nat.zero_le _
  | a :: l, l2, hn, hi, hm => by
    obtain ⟨h1, h2⟩ := List.nodup_cons.1 hn
    have ha := hm a (List.mem_cons_self ..)
    have hl := List.length_erase_of_mem ha
    have hp := List.length_pos_of_mem ha
    have := len_le_map (f := f) (l1 := l) (l2 := l2.erase (f a)) h2 (fun b hb c hc => hi b (List.mem_cons_of_mem _ hb) c (List.mem_cons_of_mem _ hc)) fun b hb =>
      (List.mem_erase_of_ne (fun e => h1 (by rw [← hi b (List.mem_cons_of_mem _ hb) a (List.mem_cons_self ..) e]; exact hb))).2 (hm b (List.mem_cons_of_mem _ hb))
    simp only [List.length_cons]
    omega
/-- How many of the first n are so. -/
def cntB (n : Nat) (b : Nat → Bool) : Nat := ((List.range n).filter b).length
theorem cntB_zero (b : Nat → Bool) : cntB 0 b = 0 := rfl
theorem cntB_succ (n : Nat) (b : Nat → Bool) : cntB (n + 1) b = if b n = true then cntB n b + 1 else cntB n b := by
  unfold cntB
  rw [List.range_succ, List.filter_append]
  by_cases h : b n = true
  · rw [if_pos h, List.filter_cons_of_pos h, List.length_append]; rfl
  · rw [if_neg h, List.filter_cons_of_neg h, List.length_append]; rfl
theorem cntB_le (n : Nat) (b : Nat → Bool) : cntB n b ≤ n := by
  have := List.length_filter_le b (List.range n)
  rw [List.length_range] at this
  exact this
theorem cntB_congr {n : Nat} {b b' : Nat → Bool} (h : ∀ i, i < n → b i = b' i) : cntB n b = cntB n b' := by
  unfold cntB
  rw [List.filter_congr fun i hi => h i (List.mem_range.1 hi)]
theorem cntB_roS {D F : Nat} (hF : F < D) (b : Nat → Bool) : cntB D b = cntB D fun k => b (roS D F k) := by
  unfold cntB
  apply Nat.le_antisymm
  · refine len_le_map (f := roI D F) (List.nodup_range.filter _) (fun i hi j hj e => ?_) fun i hi => ?_
    · have h1 := List.mem_range.1 (List.mem_filter.1 hi).1
      have h2 := List.mem_range.1 (List.mem_filter.1 hj).1
      rw [← roS_roI hF h1, e, roS_roI hF h2]
    · obtain ⟨h1, h2⟩ := List.mem_filter.1 hi
      have h1 := List.mem_range.1 h1
      refine List.mem_filter.2 ⟨List.mem_range.2 (roI_lt hF h1), ?_⟩
      rw [roS_roI hF h1]
      exact h2
  · refine len_le_map (f := roS D F) (List.nodup_range.filter _) (fun i hi j hj e => roS_inj hF (List.mem_range.1 (List.mem_filter.1 hi).1) (List.mem_range.1 (List.mem_filter.1 hj).1) e) fun i hi => ?_
    obtain ⟨h1, h2⟩ := List.mem_filter.1 hi
    exact List.mem_filter.2 ⟨List.mem_range.2 (roS_lt hF (List.mem_range.1 h1)), h2⟩
theorem cntB_none {n : Nat} {b : Nat → Bool} (h : ∀ i, i < n → b i = false) : cntB n b = 0 := by
  induction n with
  | zero => rfl
  | succ n ih => rw [cntB_succ, if_neg (by rw [h n (by omega)]; decide), ih fun i hi => h i (by omega)]
theorem cntB_one {n k : Nat} (hk : k < n) : cntB n (fun i => decide (i = k)) = 1 := by
  induction n with
  | zero => omega
  | succ n ih =>
    rw [cntB_succ]
    by_cases h : k = n
    · subst h
      rw [if_pos (by simp), cntB_none fun i hi => by simp; omega]
    · rw [if_neg (by simpa using fun e => h e.symm), ih (by omega)]

/-- Zeros. -/
theorem xorL_zz : xorL (zeroL 32) (zeroL 32) = zeroL 32 := by decide
theorem foldG_zero {g : Nat → List UInt8 → List UInt8} (h0 : ∀ k, g k (zeroL 32) = zeroL 32) : ∀ (n k : Nat), foldG g k (zeroL 32) (List.replicate n (zeroL 32)) = zeroL 32
  | 0, _ => rfl
  | n + 1, k => by rw [List.replicate_succ, foldG, h0, xorL_zz]; exact foldG_zero h0 n (k + 1)
theorem rep_mem {n : Nat} : ∀ x ∈ List.replicate n (zeroL 32), x.length = 32 := fun x hx => by rw [List.eq_of_mem_replicate hx]; rfl
theorem rep_get {n k : Nat} (h : k < n) : (List.replicate n (zeroL 32)).getD k [] = zeroL 32 := by simp [List.getD_eq_getElem?_getD, h]
theorem sumG_zero {g : Nat → List UInt8 → List UInt8} (h0 : ∀ k, g k (zeroL 32) = zeroL 32) {n : Nat} (hn : 0 < n) : sumG g (List.replicate n (zeroL 32)) = zeroL 32 := by
  have h := alikeB_of (rs := List.replicate n (zeroL 32)) (by simpa using hn) rep_mem
  unfold sumG
  rw [if_pos h.1, h.2]
  exact foldG_zero h0 n 0
theorem zeros_all {n k : Nat} (hn : 0 < n) (hk : k < n + 2) : (allL (List.replicate n (zeroL 32))).getD k [] = zeroL 32 := by
  have hl : (List.replicate n (zeroL 32)).length = n := by simp
  by_cases h1 : k < n
  · rw [allL_data (by rw [hl]; exact h1)]; exact rep_get h1
  · by_cases h2 : k = n
    · subst h2
      have := allL_p (List.replicate k (zeroL 32))
      rw [hl] at this
      rw [this]
      exact sumG_zero (gP_zero 32) hn
    · obtain rfl : k = n + 1 := by omega
      have := allL_q (List.replicate n (zeroL 32))
      rw [hl] at this
      rw [this]
      exact sumG_zero (gQ_zero 32) hn
theorem zeros_fill {D F W i : Nat} (hF : F < D) (hW : 0 < W) (hD : D ≤ W + 2) (hi : i < D) : (fillL D F (List.replicate W (zeroL 32))).getD i [] = zeroL 32 := by
  rw [fillL_get hF hi]
  have := roI_lt hF hi
  exact zeros_all hW (by omega)
/-- One of zeros set. -/
theorem set_sum {g : Nat → List UInt8 → List UInt8} (hg : ∀ k r, (g k r).length = r.length) (h0 : ∀ k, g k (zeroL 32) = zeroL 32) {n k : Nat} (hk : k < n) {s : List UInt8} (hs : s.length = 32) : sumG g ((List.replicate n (zeroL 32)).set k s) = g k s := by
  rw [sumG_set hg h0 (by simpa using hk) (rep_get hk) hs rep_mem, sumG_zero h0 (by omega), xorL_comm, xorL_zero _ 32 ((hg _ _).trans hs)]
theorem scale_ne {s : List UInt8} {k : Nat} (hne : s ≠ zeroL 32) : scaleL s (gpow (k : Int)) ≠ zeroL 32 := fun e => hne (by
  have h := (gpow_neg k s).1
  rw [e, scaleL_zero] at h
  exact h.symm)
/-- Not zeros: its own disk's, P, and Q where there is one. -/
theorem zeros_count {D F W k : Nat} {l : Int} (hF : F < D) (hk : k < W) (hlv : (l = 5 ∧ D = W + 1) ∨ (l = 6 ∧ D = W + 2)) {s : List UInt8} (hs : s.length = 32) (hne : s ≠ zeroL 32) :
    ((cntB D fun i => decide ((fillL D F ((List.replicate W (zeroL 32)).set k s)).getD i [] ≠ zeroL 32) : Nat) : Int) = l - 3 := by
  have hl : ((List.replicate W (zeroL 32)).set k s).length = W := by simp
  rw [cntB_roS hF]
  have e : cntB D (fun j => decide ((fillL D F ((List.replicate W (zeroL 32)).set k s)).getD (roS D F j) [] ≠ zeroL 32)) = cntB D fun j => decide ((allL ((List.replicate W (zeroL 32)).set k s)).getD j [] ≠ zeroL 32) :=
    cntB_congr fun j hj => by rw [fillL_at hF hj]
  have eW : cntB W (fun j => decide ((allL ((List.replicate W (zeroL 32)).set k s)).getD j [] ≠ zeroL 32)) = 1 := by
    rw [← cntB_one hk]
    refine cntB_congr fun j hj => ?_
    rw [allL_data (by rw [hl]; exact hj)]
    by_cases h : k = j
    · subst h; rw [getD_set_same (by simpa using hk)]; simp [hne]
    · rw [getD_set_other h, rep_get hj]; simpa using fun e => h e.symm
  have hp := allL_p ((List.replicate W (zeroL 32)).set k s)
  have hq := allL_q ((List.replicate W (zeroL 32)).set k s)
  rw [hl] at hp hq
  have hp2 : pB ((List.replicate W (zeroL 32)).set k s) = s := set_sum gP_len (gP_zero 32) hk hs
  have hq2 : qB ((List.replicate W (zeroL 32)).set k s) = scaleL s (gpow (k : Int)) := set_sum gQ_len (gQ_zero 32) hk hs
  rw [hp2] at hp
  rw [hq2] at hq
  rw [e]
  rcases hlv with ⟨rfl, rfl⟩ | ⟨rfl, rfl⟩
  · rw [cntB_succ, if_pos (by rw [hp]; exact decide_eq_true hne), eW]; rfl
  · rw [cntB_succ, if_pos (by rw [hq]; exact decide_eq_true (scale_ne hne)), cntB_succ, if_pos (by rw [hp]; exact decide_eq_true hne), eW]; rfl
end Go.Proofs.Ytadfimimkkimmaa
end
section
set_option linter.unusedVariables false
set_option linter.unusedSimpArgs false
namespace Go.Proofs.Ytadfimimkkimmaa

def emptyB (xs : List (List UInt8)) (i : Nat) : Bool := (xs.getD i []).length == 0
theorem missB_cnt (rs : List (List UInt8)) : (missB rs).length = cntB rs.length (emptyB rs) := rfl
theorem missB_pair (p q : List UInt8) : (missB [p, q]).length = (if p.length = 0 then 1 else 0) + (if q.length = 0 then 1 else 0) := by
  rw [missB_two, List.length_append]
  split <;> split <;> rfl
theorem data_cnt {l d c r : Int} (xs : List (List UInt8)) : (missB (dataL l d c r xs)).length = cntB (roW l d) fun k => emptyB xs (roS (roD d) (roF l d c r) k) := by
  rw [missB_cnt, dataL_len]
  exact cntB_congr fun k hk => by unfold emptyB; rw [dataL_get hk]
/-- All that is missing, part by part. -/
theorem all_cnt {l d c r : Int} (R : Ro l d c r) (xs : List (List UInt8)) :
    cntB (roD d) (emptyB xs) = (missB (dataL l d c r xs)).length + (if (parL l d c r xs).length = 0 then 1 else 0) + (if l = 6 ∧ (parQ l d c r xs).length = 0 then 1 else 0) := by
  rw [cntB_roS R.hF, data_cnt]
  rcases R.lv with ⟨h5, hD⟩ | ⟨h6, hD⟩
  · rw [if_neg (by omega : ¬ (l = 6 ∧ _))]
    unfold parL
    generalize roF l d c r = F
    rw [hD, cntB_succ]
    unfold emptyB
    by_cases h : (xs.getD (roS (roW l d + 1) F (roW l d)) []).length = 0
    · rw [if_pos (by simpa using h), if_pos h]; all_goals omega
    · rw [if_neg (by simpa using h), if_neg h]; all_goals omega
  · unfold parL parQ
    rw [if_pos h6]
    generalize roF l d c r = F
    rw [hD, cntB_succ, cntB_succ]
    unfold emptyB
    by_cases h : (xs.getD (roS (roW l d + 2) F (roW l d)) []).length = 0
    · by_cases h2 : (xs.getD (roS (roW l d + 2) F (roW l d + 1)) []).length = 0
      · rw [if_pos (by simpa using h2), if_pos (by simpa using h), if_pos h, if_pos ⟨h6, h2⟩]; all_goals omega
      · rw [if_neg (by simpa using h2), if_pos (by simpa using h), if_pos h, if_neg fun e => h2 e.2]; all_goals omega
    · by_cases h2 : (xs.getD (roS (roW l d + 2) F (roW l d + 1)) []).length = 0
      · rw [if_pos (by simpa using h2), if_neg (by simpa using h), if_neg h, if_pos ⟨h6, h2⟩]; all_goals omega
      · rw [if_neg (by simpa using h2), if_neg (by simpa using h), if_neg h, if_neg fun e => h2 e.2]; all_goals omega
/-- With not more missing than may be the data is told. -/
theorem lose_ok {l d c r : Int} {rs xs : List (List UInt8)} (h : fillOk l d c r rs = true) (hl : xs.length = roD d) (hx : ∀ i, i < roD d → (xs.getD i []).length = 0 ∨ xs.getD i [] = (fillL (roD d) (roF l d c r) rs).getD i [])
    (hc : ((cntB (roD d) (emptyB xs) : Nat) : Int) ≤ l - 4) : roTake l d c r xs = some rs := by
  have R := ro_of (fillOk_yes h).1
  refine take_back h hl hx ?_
  have hc2 := all_cnt R xs
  rw [missB_pair]
  have hlv := R.lv
  by_cases h6 : l = 6
  · split at hc2 <;> split at hc2 <;> split <;> split <;> omega
  · have h5 : l = 5 := by omega
    have hq : (parQ l d c r xs).length = 0 := by unfold parQ; rw [if_neg h6]; rfl
    rw [if_pos hq]
    rw [if_neg (show ¬ (l = 6 ∧ (parQ l d c r xs).length = 0) from fun e => h6 e.1)] at hc2
    split at hc2 <;> split <;> omega
theorem cntB_or (n : Nat) (b c : Nat → Bool) : cntB n (fun i => b i || c i) ≤ cntB n b + cntB n c := by
  induction n with
  | zero => exact Nat.le_refl _
  | succ n ih =>
    rw [cntB_succ, cntB_succ, cntB_succ]
    cases hb : b n <;> cases hc : c n <;> simp <;> omega
theorem cntB_one_le (n k : Nat) : cntB n (fun i => decide (i = k)) ≤ 1 := by
  by_cases h : k < n
  · rw [cntB_one h]; exact Nat.le_refl _
  · rw [cntB_none fun i hi => by simp; omega]; omega
theorem emptyB_set {xs : List (List UInt8)} {n k : Nat} (hl : xs.length = n) (hk : k < n) {i : Nat} : emptyB (xs.set k []) i = (decide (i = k) || emptyB xs i) := by
  unfold emptyB
  by_cases h : k = i
  · subst h; rw [getD_set_same (by omega)]; simp
  · rw [getD_set_other h]; simp [Ne.symm h]
end Go.Proofs.Ytadfimimkkimmaa
end
section
set_option linter.unusedVariables false
set_option linter.unusedSimpArgs false
namespace Go.Proofs.Ytadfimimkkimmaa
open Go.RowKit

theorem some_if {P Q : Prop} [Decidable P] [Decidable Q] (x : List (List UInt8)) (h : P ↔ Q) : (if (true && (decide P && (true && true))) = true then some x else none).isSome = decide Q := by
  by_cases hp : P
  · rw [decide_eq_true hp, decide_eq_true (h.1 hp)]; rfl
  · rw [decide_eq_false hp, decide_eq_false fun q => hp (h.2 q)]; rfl
def thereN (l : Int) (lp lq : Nat) : Nat := (if 0 < lp then 1 else 0) + (if l = 6 ∧ 0 < lq then 1 else 0)
/-- Whether what is left tells the data. -/
theorem lose_end {n l c r : Int} {D F W : Nat} (gr : Gr n l c r D F W) {xs : List (List UInt8)} (hl : xs.length = D) (hs : ∀ i, i < D → (xs.getD i []).length = 0 ∨ (xs.getD i []).length = 32) :
    (roTake l (D : Int) c r xs).isSome = decide (cntB D (fun k : Nat => emptyB xs k && (!decide (k = roS D F W) && !decide ((k : Int) = if l = 6 then ((roS D F (W + 1) : Nat) : Int) else -1))) ≤ thereN l (xs.getD (roS D F W) []).length (xs.getD (roS D F (W + 1)) []).length) := by
  have hF := gr.hF; have hW := gr.hW; have w7 := gr.w7; have w1 := gr.w1; have hlv := gr.lv
  rw [roTake_yes gr.ok (by rw [gr.eD]; exact hl)]
  have ed := data_cnt (l := l) (d := (D : Int)) (c := c) (r := r) xs
  have edl := dataL_len l (D : Int) c r xs
  rw [gr.eD, gr.eF, gr.eW] at ed
  rw [gr.eW] at edl
  have hdat : sizedB 32 (dataL l (D : Int) c r xs) = true := sizedB_iff.2 fun k hk => by
    rw [dataL_get (by rw [gr.eW]; omega), gr.eD, gr.eF]
    exact hs _ (roS_lt hF (by omega))
  have eP : parL l (D : Int) c r xs = xs.getD (roS D F W) [] := by unfold parL; rw [gr.eD, gr.eF, gr.eW]
  have eQ : parQ l (D : Int) c r xs = if l = 6 then xs.getD (roS D F (W + 1)) [] else [] := by unfold parQ; rw [gr.eD, gr.eF, gr.eW]
  have hp := hs _ (roS_lt hF hW)
  have hask : askB 32 (parL l (D : Int) c r xs) (parQ l (D : Int) c r xs) (dataL l (D : Int) c r xs) = true := by
    unfold askB
    rw [hdat, Bool.and_true, Bool.and_eq_true]
    refine ⟨rfl, sizedB_iff.2 fun k hk => ?_⟩
    match k, hk with
    | 0, _ => show (parL l (D : Int) c r xs).length = 0 ∨ _; rw [eP]; exact hp
    | 1, _ =>
      show (parQ l (D : Int) c r xs).length = 0 ∨ _
      rw [eQ]
      split
      · exact hs _ (roS_lt hF (by omega))
      · exact .inl rfl
  have ecnt : cntB D (fun k : Nat => emptyB xs k && (!decide (k = roS D F W) && !decide ((k : Int) = if l = 6 then ((roS D F (W + 1) : Nat) : Int) else -1))) = (missB (dataL l (D : Int) c r xs)).length := by
    rw [ed, cntB_roS hF]
    have inj : ∀ a b, a < D → b < D → a ≠ b → roS D F a ≠ roS D F b := fun a b h1 h2 h3 h4 => h3 (roS_inj hF h1 h2 h4)
    have low : ∀ (q : Int), (∀ k, k < W → ((roS D F k : Nat) : Int) ≠ q) → cntB W (fun k => emptyB xs (roS D F k) && (!decide (roS D F k = roS D F W) && !decide (((roS D F k : Nat) : Int) = q))) = cntB W (fun k => emptyB xs (roS D F k)) := fun q hq => cntB_congr fun k hk => by
      rw [decide_eq_false (inj k W (by omega) hW (by omega)), decide_eq_false (hq k hk)]
      simp
    rcases hlv with ⟨h5, hD⟩ | ⟨h6, hD⟩
    · rw [if_neg (by omega)]
      have hl := low (-1) (fun k hk => by omega)
      generalize hf : (fun k => emptyB xs (roS D F k) && (!decide (roS D F k = roS D F W) && !decide (((roS D F k : Nat) : Int) = -1))) = f at hl ⊢
      have hfW : f W = false := by rw [← hf]; simp
      rw [show cntB D f = cntB (W + 1) f by rw [hD], cntB_succ, hfW]
      exact hl
    · rw [if_pos h6]
      have hl := low ((roS D F (W + 1) : Nat) : Int) (fun k hk => by have := inj k (W + 1) (by omega) (by omega) (by omega); omega)
      generalize hf : (fun k => emptyB xs (roS D F k) && (!decide (roS D F k = roS D F W) && !decide (((roS D F k : Nat) : Int) = ((roS D F (W + 1) : Nat) : Int)))) = f at hl ⊢
      have hfW : f W = false := by rw [← hf]; simp
      have hfW1 : f (W + 1) = false := by rw [← hf]; simp
      rw [show cntB D f = cntB (W + 2) f by rw [hD], cntB_succ, hfW1, cntB_succ, hfW]
      exact hl
  rw [ecnt]
  unfold solveB canB
  rw [hask, edl, decide_eq_true (show 0 < W by omega), decide_eq_true (show W ≤ 8 by omega), missB_pair, eP, eQ]
  generalize (missB (dataL l (D : Int) c r xs)).length = m
  unfold thereN
  generalize (xs.getD (roS D F W) []).length = lp
  rcases hlv with ⟨h5, _⟩ | ⟨h6, _⟩
  · rw [if_neg (show ¬ l = 6 by omega)]
    refine some_if _ ?_
    rw [if_neg (show ¬ (l = 6 ∧ _) by omega), if_pos (show ([] : List UInt8).length = 0 from rfl)]
    by_cases h0 : lp = 0
    · rw [if_pos h0, if_neg (by omega)]
    · rw [if_neg h0, if_pos (by omega)]
  · rw [if_pos h6]
    generalize (xs.getD (roS D F (W + 1)) []).length = lq
    refine some_if _ ?_
    by_cases h0 : lp = 0
    · by_cases h1 : lq = 0
      · rw [if_pos h0, if_pos h1, if_neg (by omega), if_neg (by omega)]
      · rw [if_pos h0, if_neg h1, if_neg (by omega), if_pos ⟨h6, by omega⟩]
    · by_cases h1 : lq = 0
      · rw [if_neg h0, if_pos h1, if_pos (by omega), if_neg (by omega)]
      · rw [if_neg h0, if_neg h1, if_pos (by omega), if_pos ⟨h6, by omega⟩]
end Go.Proofs.Ytadfimimkkimmaa
end
section
set_option linter.unusedVariables false
set_option linter.unusedSimpArgs false
namespace Go.Proofs.Ytadfimimkkimmaa

structure Std (N : Bch) (m D : Nat) (fl : Nat → List (List UInt8)) : Prop where
  n : N.n = m
  dn : N.down = false
  at' : ∀ i, i < D → ∀ t, t < 16 → (N.D i).f = false → secAt (N.D i).now (36 + t) = (fl t).getD i []
theorem Fld.std {N : Bch} {m D : Nat} {fl : Nat → List (List UInt8)} (h : Fld N m D fl 16 0) : Std N m D fl := ⟨h.gd.n, h.gd.dn, fun i hi t ht _ => h.all hi ht⟩
theorem fail_D {N : Bch} {d : Nat} (hd : d < N.n) (i : Nat) : (N.fail (d : Int)).D i = if i = d then Dsk.failed else N.D i := by
  unfold Bch.fail
  rw [if_neg (by rw [Bch.pickE_ok (by omega) (by omega)]; simp)]
  show upd N.D ((d : Int)).toNat Dsk.failed i = _
  rw [show ((d : Int)).toNat = d by omega]
  by_cases e : i = d
  · subst e; rw [upd_same, if_pos rfl]
  · rw [upd_other _ _ e, if_neg e]
theorem fail_up {N : Bch} {d : Int} : (N.fail d).down = N.down := by unfold Bch.fail; split <;> rfl
theorem fail_is {N : Bch} {d : Int} : (N.fail d).n = N.n := by unfold Bch.fail; split <;> rfl
theorem Std.fail {N : Bch} {m D : Nat} {fl : Nat → List (List UInt8)} (h : Std N m D fl) {d : Nat} (hd : d < m) : Std (N.fail (d : Int)) m D fl := by
  refine ⟨fail_is.trans h.n, fail_up.trans h.dn, fun i hi t ht hf => ?_⟩
  rw [fail_D (by rw [h.n]; exact hd)] at hf ⊢
  by_cases e : i = d
  · rw [if_pos e] at hf; cases hf
  · rw [if_neg e] at hf ⊢; exact h.at' i hi t ht hf
section
variable {N : Bch} {m D F W : Nat} {fl : Nat → List (List UInt8)} {n l c : Int} {t : Nat} {lv : List Bool} {rs : List (List UInt8)}
/-- The sectors that are read: nothing, or the row's. -/
theorem Std.read (h : Std N m D fl) (ht : t < 16) (h32 : ∀ i, i < D → ((fl t).getD i []).length = 32) : (∀ i, i < D → ((ssL N lv (36 + t) D).getD i []).length = 0 ∨ (ssL N lv (36 + t) D).getD i [] = (fl t).getD i []) ∧ (∀ i, i < D → emptyB (ssL N lv (36 + t) D) i = !srvD N lv i) := by
  refine ⟨fun i hi => ?_, fun i hi => ?_⟩
  · rw [ssL_get hi]
    split
    · next hs => exact .inr (h.at' i hi t ht (srvD_yes hs).2.2)
    · exact .inl rfl
  · unfold emptyB
    rw [ssL_get hi]
    cases hs : srvD N lv i with
    | true => rw [if_pos rfl, h.at' i hi t ht (srvD_yes hs).2.2, h32 i hi]; rfl
    | false => rw [if_neg (by simp)]; rfl
theorem take_either {l d c r : Int} {rs xs : List (List UInt8)} (h : fillOk l d c r rs = true) (hl : xs.length = roD d) (hx : ∀ i, i < roD d → (xs.getD i []).length = 0 ∨ xs.getD i [] = (fillL (roD d) (roF l d c r) rs).getD i []) (hs : (roTake l d c r xs).isSome = true) : roTake l d c r xs = some rs := by
  refine take_back h hl hx ?_
  rw [roTake_yes (fillOk_yes h).1 hl] at hs
  unfold solveB at hs
  split at hs
  · next hc =>
    rw [Bool.and_eq_true] at hc
    have := hc.2
    unfold canB at this
    rw [Bool.and_eq_true] at this
    exact of_decide_eq_true this.1
  · cases hs
/-- Read of a row: told, or lost. -/
theorem Std.told (h : Std N m D fl) (gr : Gr n l c (t : Int) D F W) (hrs : rs.length = W) (ha : ∀ x ∈ rs, x.length = 32) (hfl : fl t = fillL D F rs) (lv : List Bool) :
    if (roTake l (D : Int) c (t : Int) (ssL N lv (36 + t) D)).isSome = true then srdE N lv l (D : Int) c (t : Int) = 0 ∧ srdL N lv l (D : Int) c (t : Int) = rs else srdE N lv l (D : Int) c (t : Int) = 7 ∧ srdL N lv l (D : Int) c (t : Int) = [] := by
  have ht : t < 16 := by have := gr.r0; omega
  have h32 : ∀ i, i < D → ((fl t).getD i []).length = 32 := fun i hi => by rw [hfl]; exact gr.fills hrs ha hi
  obtain ⟨h1, h2⟩ := h.read (lv := lv) ht h32
  have e36 : ssL N lv (36 + ((t : Int)).toNat) (roD (D : Int)) = ssL N lv (36 + t) D := by rw [gr.eD]; rfl
  split
  · next hs =>
    refine srdE_ok gr.ok (.inl h.dn) ?_
    rw [e36]
    refine take_either (gr.fok hrs ha) (by rw [ssL_len, gr.eD]) (fun i hi => ?_) hs
    rw [gr.eD] at hi
    rw [gr.eD, gr.eF, ← hfl]
    exact h1 i hi
  · next hs =>
    refine srdE_lost gr.ok (.inl h.dn) ?_
    rw [e36]
    cases hq : roTake l (D : Int) c (t : Int) (ssL N lv (36 + t) D) with
    | none => rfl
    | some L => rw [hq] at hs; exact absurd rfl hs
/-- With not more missing than may be it is told. -/
theorem Std.ok (h : Std N m D fl) (gr : Gr n l c (t : Int) D F W) (hrs : rs.length = W) (ha : ∀ x ∈ rs, x.length = 32) (hfl : fl t = fillL D F rs) (hc : ((cntB D (fun i => !srvD N lv i) : Nat) : Int) ≤ l - 4) :
    srdE N lv l (D : Int) c (t : Int) = 0 ∧ srdL N lv l (D : Int) c (t : Int) = rs := by
  have ht : t < 16 := by have := gr.r0; omega
  have h32 : ∀ i, i < D → ((fl t).getD i []).length = 32 := fun i hi => by rw [hfl]; exact gr.fills hrs ha hi
  obtain ⟨h1, h2⟩ := h.read (lv := lv) ht h32
  have := h.told gr hrs ha hfl lv
  rw [if_pos] at this
  · exact this
  · rw [lose_ok (gr.fok hrs ha) (by rw [ssL_len, gr.eD]) (fun i hi => by
      rw [gr.eD] at hi
      rw [gr.eD, gr.eF, ← hfl]
      exact h1 i hi) (by rw [gr.eD, cntB_congr h2]; exact hc)]
    rfl
end
/-- What writes leave where there is power and no limit. -/
structure SwG (N M : Bch) (lv : List Bool) (a : Nat) (xs : List (List UInt8)) (i : Nat) : Prop where
  n : M.n = N.n
  dn : M.down = false
  lf : M.left = -1
  D : ∀ j, M.D j = if j < i ∧ srvD N lv j = true then (N.D j).write a (xs.getD j []) else N.D j
theorem SwG.srv {N M : Bch} {lv : List Bool} {a : Nat} {xs : List (List UInt8)} {i : Nat} (g : SwG N M lv a xs i) (j : Nat) : srvD M lv j = srvD N lv j := by
  refine srvD_congr g.n ?_
  rw [g.D j]; split <;> rfl
theorem sw_good {N : Bch} {lv : List Bool} {a D : Nat} {xs : List (List UInt8)} (ha : a < 52) (hx : ∀ i, i < D → (xs.getD i []).length = 32) (hd : N.down = false) (hl : N.left = -1) : ∀ i, i ≤ D → (swTo lv a xs N i).1 = 0 ∧ SwG N (swTo lv a xs N i).2 lv a xs i
  | 0, _ => ⟨rfl, rfl, hd, hl, fun j => (if_neg (by omega)).symm⟩
  | i + 1, hi => by
    obtain ⟨h0, g⟩ := sw_good (lv := lv) ha hx hd hl i (by omega)
    have hs := g.srv i
    cases hb : srvD N lv i with
    | false =>
      rw [hb] at hs
      rw [swTo_skip h0 hs]
      refine ⟨h0, g.n, g.dn, g.lf, fun j => ?_⟩
      rw [g.D j]
      by_cases e : j = i
      · subst e; rw [hb, if_neg (by omega), if_neg (by simp)]
      · by_cases c : j < i
        · simp only [c, show j < i + 1 by omega]
        · rw [if_neg (by omega), if_neg (by omega)]
    | true =>
      rw [hb] at hs
      obtain ⟨s1, s2, s3⟩ := srvD_yes hs
      have hDi : (swTo lv a xs N i).2.D i = N.D i := by rw [g.D i, if_neg (by omega)]
      have hw := Bch.write_ok (N := (swTo lv a xs N i).2) (d := i) (k := a) (x := xs.getD i []) s1 ha (hx i (by omega)) s3 g.dn (by rw [g.lf]; decide)
      rw [Bch.count_free (by exact g.lf), hDi] at hw
      rw [swTo_goes h0 hs]
      refine ⟨hw.1, ?_⟩
      show SwG N ((swTo lv a xs N i).2.write (i : Int) (a : Int) (xs.getD i [])) lv a xs (i + 1)
      rw [hw.2]
      refine ⟨g.n, g.dn, g.lf, fun j => ?_⟩
      show upd (swTo lv a xs N i).2.D i _ j = _
      by_cases e : j = i
      · subst e; rw [upd_same, if_pos ⟨by omega, hb⟩]
      · rw [upd_other _ _ e, g.D j]
        by_cases c : j < i
        · simp only [c, show j < i + 1 by omega]
        · rw [if_neg (by omega), if_neg (by omega)]
theorem swr_good {N : Bch} {lv : List Bool} {n l c r : Int} {D F W : Nat} (gr : Gr n l c r D F W) {rs : List (List UInt8)} (hrs : rs.length = W) (ha : ∀ x ∈ rs, x.length = 32) (hd : N.down = false) (hl : N.left = -1) :
    (swrS N lv l (D : Int) c r rs).1 = 0 ∧ SwG N (swrS N lv l (D : Int) c r rs).2 lv (36 + r.toNat) (fillL D F rs) D := by
  have e : swrS N lv l (D : Int) c r rs = swTo lv (36 + r.toNat) (fillL D F rs) N D := by
    unfold swrS; rw [if_neg (by rw [gr.fok hrs ha]; simp), gr.eD, gr.eF]
  rw [e]
  exact sw_good (by have := gr.r0; omega) (fun i hi => gr.fills hrs ha hi) hd hl D (Nat.le_refl _)
theorem flushE_now (D : Dsk) : D.flushE.now = D.now := by unfold Dsk.flushE; split <;> rfl
theorem flushE_f (D : Dsk) : D.flushE.f = D.f := by unfold Dsk.flushE; split <;> rfl
theorem flD_now (lv : List Bool) (D : Dsk) (i j : Nat) : (flD lv D i j).now = D.now := by unfold flD; split; exact flushE_now D; rfl
theorem flD_f (lv : List Bool) (D : Dsk) (i j : Nat) : (flD lv D i j).f = D.f := by unfold flD; split; exact flushE_f D; rfl
theorem sfl_good {N : Bch} {lv : List Bool} (hd : N.down = false) : (sflS N lv).1 = 0 ∧ FlG N (sflS N lv).2 lv N.n := flushed_good hd N.n (Nat.le_refl _)
/-- A row written: it stands on the disks that serve. -/
def flSet (fl : Nat → List (List UInt8)) (r : Nat) (x : List (List UInt8)) : Nat → List (List UInt8) := fun t => if t = r then x else fl t
theorem Std.written {N M : Bch} {lv : List Bool} {m D r : Nat} {fl : Nat → List (List UInt8)} {x : List (List UInt8)} (h : Std N m D fl) (g : SwG N M lv (36 + r) x D) (hr : r < 16) (hok : ∀ i, i < D → (N.D i).Ok) (hx : ∀ i, i < D → (x.getD i []).length = 32) (hs : ∀ i, i < D → (N.D i).f = false → srvD N lv i = true) : Std M m D (flSet fl r x) := by
  refine ⟨g.n.trans h.n, g.dn, fun i hi t ht hf => ?_⟩
  rw [g.D i] at hf ⊢
  have hf' : (N.D i).f = false := by
    split at hf <;> exact hf
  rw [if_pos ⟨hi, hs i hi hf'⟩, Dsk.write_now]
  unfold flSet
  by_cases e : t = r
  · subst e; rw [if_pos rfl]; exact sec_put_same (hok i hi).now (by omega) (hx i hi)
  · rw [if_neg e, sec_put_other (hok i hi).now (by omega) (hx i hi) (by omega)]; exact h.at' i hi t ht hf'
theorem Std.flushed {N M : Bch} {lv : List Bool} {m D k : Nat} {fl : Nat → List (List UInt8)} (h : Std N m D fl) (g : FlG N M lv k) : Std M m D fl :=
  ⟨g.n.trans h.n, g.dn, fun i hi t ht hf => by
    rw [g.D i, flD_f] at hf
    rw [g.D i, flD_now]
    exact h.at' i hi t ht hf⟩
end Go.Proofs.Ytadfimimkkimmaa
end
