/- PlanCovers: its loops. -/
import Derived.Test.YtabeadbnoifedaaPlanKit
import Derived.Test.YtabeadbnoifedaaRefOf
import Derived.Test.YtabeadbnoifedaaSub
set_option linter.unusedVariables false
set_option linter.unusedSimpArgs false
namespace Go.Proofs.Ytabeadbnoifedaa
open Go.RowKit

noncomputable def codePC : Code := Try.f7.body.getD .skip
set_option maxRecDepth 100000 in
set_option maxHeartbeats 3200000 in
theorem pcBb {w0 : World} {gb : Nat} {l d c l' d' c' R Wn wa wb : Int} {k : Nat} {cu : Int} {i : Nat} {w : World} (u0 u1 u2 u3 u11 u12 u13 u14 u15 u16 u17 u18 u19 u20 u21 u22 u23 u24 u25 u26 u27 u28 u29 u30 u31 u32 u33 u34 u35 u36 u37 u38 u39 u40 u41 u42 u43 u44 u45 u46 u47 u48 u49 u50 u51 u52 u53 u54 u55 u56 u57 u58 u59 u60 u61 u62 u63 u64 u65 u66 u67 u68 u69 u70 u71 u72 u73 u74 u75 u76 u77 u78 u79 u80 u81 u82 u83 u84 u85 u86 u87 u88 u89 u90 u91 : Value) (K : Act → World → Prop) (Q0 : Exit → Act → World → Prop) (P : Pn l d c l' d' c' R Wn wa wb) (hk : k ≤ 16) (hcu : ∀ i : Int, i < wa * 16 → (i < cu ↔ i < (k : Int) * (R * wb))) (hI : (i ≤ 112 ∧ GS2 w0 w0.heap.size gb (gb + 1) l d c l' d' c' w))
    (hK : ∀ (v11 v12 v13 v14 v15 v16 v37 v38 v39 v40 v41 v42 v43 v44 v45 v46 v47 v48 v49 v50 v51 v52 v53 v54 v55 v56 v57 v58 v59 v60 v61 v62 v63 v64 v65 v66 v67 v68 v69 v70 v71 v72 v73 v74 v75 v76 v77 v78 v79 v80 v81 v82 v83 v84 v85 v86 : Value)  (V : World), ((i + 1) ≤ 112 ∧ GS2 w0 w0.heap.size gb (gb + 1) l d c l' d' c' V) → 113 - (i + 1) < 113 - i → K ⟨List.toArray (u0 :: u1 :: u2 :: u3 :: (.bool false) :: (.pointer (some ⟨gb, 0, none⟩)) :: (.pointer (some ⟨gb + 1, 0, none⟩)) :: (.int .i64 R) :: (.int .i64 (k : Int)) :: (.int .i64 cu) :: (.int .i64 (((i + 1) : Nat) : Int)) :: v11 :: v12 :: v13 :: v14 :: v15 :: v16 :: u17 :: u18 :: u19 :: u20 :: u21 :: u22 :: u23 :: u24 :: u25 :: u26 :: u27 :: u28 :: u29 :: u30 :: u31 :: u32 :: u33 :: u34 :: u35 :: u36 :: v37 :: v38 :: v39 :: v40 :: v41 :: v42 :: v43 :: v44 :: v45 :: v46 :: v47 :: v48 :: v49 :: v50 :: v51 :: v52 :: v53 :: v54 :: v55 :: v56 :: v57 :: v58 :: v59 :: v60 :: v61 :: v62 :: v63 :: v64 :: v65 :: v66 :: v67 :: v68 :: v69 :: v70 :: v71 :: v72 :: v73 :: v74 :: v75 :: v76 :: v77 :: v78 :: v79 :: v80 :: v81 :: v82 :: v83 :: v84 :: v85 :: v86 :: u87 :: u88 :: u89 :: u90 :: u91 :: []), []⟩ V)
    (hX : ∀ (v11 v12 v13 v14 v15 v16 v37 v38 v39 v40 v41 v42 v43 v44 v45 v46 v47 v48 v49 v50 v51 v52 v53 v54 v55 v56 v57 v58 v59 v60 v61 v62 v63 v64 v65 v66 v67 v68 v69 v70 v71 v72 v73 v74 v75 v76 v77 v78 v79 v80 v81 v82 v83 v84 v85 v86 : Value) (V : World), (i ≤ 112 ∧ GS2 w0 w0.heap.size gb (gb + 1) l d c l' d' c' V) → (True) → Q0 (.exit 2) ⟨List.toArray (u0 :: u1 :: u2 :: u3 :: (.bool false) :: (.pointer (some ⟨gb, 0, none⟩)) :: (.pointer (some ⟨gb + 1, 0, none⟩)) :: (.int .i64 R) :: (.int .i64 (k : Int)) :: (.int .i64 cu) :: (.int .i64 ((i : Nat) : Int)) :: v11 :: v12 :: v13 :: v14 :: v15 :: v16 :: u17 :: u18 :: u19 :: u20 :: u21 :: u22 :: u23 :: u24 :: u25 :: u26 :: u27 :: u28 :: u29 :: u30 :: u31 :: u32 :: u33 :: u34 :: u35 :: u36 :: v37 :: v38 :: v39 :: v40 :: v41 :: v42 :: v43 :: v44 :: v45 :: v46 :: v47 :: v48 :: v49 :: v50 :: v51 :: v52 :: v53 :: v54 :: v55 :: v56 :: v57 :: v58 :: v59 :: v60 :: v61 :: v62 :: v63 :: v64 :: v65 :: v66 :: v67 :: v68 :: v69 :: v70 :: v71 :: v72 :: v73 :: v74 :: v75 :: v76 :: v77 :: v78 :: v79 :: v80 :: v81 :: v82 :: v83 :: v84 :: v85 :: v86 :: u87 :: u88 :: u89 :: u90 :: u91 :: []), []⟩ V) :
    Code.wp Try.prog (sub [1, 1, 1, 0, 1, 0, 0, 1, 0, 0, 1, 1, 0, 0] codePC) (Exit.then K Q0) ⟨List.toArray (u0 :: u1 :: u2 :: u3 :: (.bool false) :: (.pointer (some ⟨gb, 0, none⟩)) :: (.pointer (some ⟨gb + 1, 0, none⟩)) :: (.int .i64 R) :: (.int .i64 (k : Int)) :: (.int .i64 cu) :: (.int .i64 ((i : Nat) : Int)) :: u11 :: u12 :: u13 :: u14 :: u15 :: u16 :: u17 :: u18 :: u19 :: u20 :: u21 :: u22 :: u23 :: u24 :: u25 :: u26 :: u27 :: u28 :: u29 :: u30 :: u31 :: u32 :: u33 :: u34 :: u35 :: u36 :: u37 :: u38 :: u39 :: u40 :: u41 :: u42 :: u43 :: u44 :: u45 :: u46 :: u47 :: u48 :: u49 :: u50 :: u51 :: u52 :: u53 :: u54 :: u55 :: u56 :: u57 :: u58 :: u59 :: u60 :: u61 :: u62 :: u63 :: u64 :: u65 :: u66 :: u67 :: u68 :: u69 :: u70 :: u71 :: u72 :: u73 :: u74 :: u75 :: u76 :: u77 :: u78 :: u79 :: u80 :: u81 :: u82 :: u83 :: u84 :: u85 :: u86 :: u87 :: u88 :: u89 :: u90 :: u91 :: []), []⟩ w := by
  have HK := Lib.hid hK
  have HX := Lib.hid hX
  clear hK hX
  conv => arg 2; whnf
  obtain ⟨hi, hS⟩ := hI
  have HC := Lib.hid (fun V => P.rcapA V)
  have hwa := P.wc
  have hle := P.le
  have hwb := P.wc'
  obtain ⟨g1, g2, g3, g4, g5, g6, F⟩ := hS
  by_cases hlt : (i : Int) < wa * 16
  · have i0 : (0 : Int) ≤ (i : Int) := by omega
    have i1 : (i : Int) < wa * 16 := hlt
    have i2 : (i : Int) < wb * 16 := by omega
    have hlt2 : decide ((i : Int) < wa * 16) = true := decide_eq_true hlt
    obtain ⟨o1, o2, o3, o4⟩ := of_yes P.a i0 (by rw [P.capA]; exact i1)
    obtain ⟨n1, n2, n3, n4⟩ := of_yes P.b i0 (by rw [P.capB]; exact i2)
    have ro := plOk_yes (plDok_yes o4).1
    have rn := plOk_yes (plDok_yes n4).1
    have hcov := P.covers (k := (k : Int)) (n := (i : Int)) (by omega) i0
    have hm := P.mulR (k := (k : Int)) (by omega) (by omega)
    have HO := Lib.hid (fun W => refOf_any l d c (i : Int) W P.bd.1 P.bd.2.1 P.bd.2.2.1 (by omega))
    rw [o1, o2] at HO
    have HN := Lib.hid (fun W => refOf_any l' d' c' (i : Int) W P.bd.2.2.2.1 P.bd.2.2.2.2.1 P.bd.2.2.2.2.2 (by omega))
    rw [n1, n2] at HN
    generalize plOfD l d c (i : Int) = x at HO
    generalize plOfD l' d' c' (i : Int) = y at HN
    generalize plRow l d c (i : Int) = old at HO hcov ro
    generalize plRow l' d' c' (i : Int) = nxt at HN hcov rn
    have hcu2 := hcu (i : Int) i1
    by_cases hic : (i : Int) < cu
    · have e1 : decide ((i : Int) < cu) = true := decide_eq_true hic
      have e2 : decide (cu ≤ (i : Int)) = false := decide_eq_false (by omega)
      have e3 : decide ((k : Int) * R ≤ nxt) = false := decide_eq_false (by have := hcov.1 (hcu2.1 hic); omega)
      clear hcov hcu2 o1 o2 o3 o4 n1 n2 n3 n4 ro rn hcu P
      go_wp2_with fail
      (with_reducible refine (HC.out _).mono ?_); rintro e wk1 ⟨rfl, hb⟩
      have SK1 := GS2.later (w0 := w0) (B := w0.heap.size) ⟨g1, g2, g3, g4, g5, g6, F⟩ hb
      clear hb g1 g2 g3 g4 g5 g6 F
      obtain ⟨g1, g2, g3, g4, g5, g6, F⟩ := SK1
      go_wp2_with fail
      (with_reducible refine (HO.out _).mono ?_); rintro e wk2 ⟨rfl, hb⟩
      have SK2 := GS2.later (w0 := w0) (B := w0.heap.size) ⟨g1, g2, g3, g4, g5, g6, F⟩ hb
      clear hb g1 g2 g3 g4 g5 g6 F
      obtain ⟨g1, g2, g3, g4, g5, g6, F⟩ := SK2
      go_wp2_with fail
      (with_reducible refine (HN.out _).mono ?_); rintro e wk3 ⟨rfl, hb⟩
      have SK3 := GS2.later (w0 := w0) (B := w0.heap.size) ⟨g1, g2, g3, g4, g5, g6, F⟩ hb
      clear hb g1 g2 g3 g4 g5 g6 F
      obtain ⟨g1, g2, g3, g4, g5, g6, F⟩ := SK3
      go_wp2_with fail
      exact HK.out _ _ _ _ _ _ _ _ _ _ _ _ _ _ _ _ _ _ _ _ _ _ _ _ _ _ _ _ _ _ _ _ _ _ _ _ _ _ _ _ _ _ _ _ _ _ _ _ _ _ _ _ _ _ _ _ _ ⟨by omega, ⟨g1, g2, g3, g4, g5, g6, F⟩⟩ (by omega)
    · have e1 : decide ((i : Int) < cu) = false := decide_eq_false hic
      have e2 : decide (cu ≤ (i : Int)) = true := decide_eq_true (by omega)
      have e3 : decide (old < (k : Int) * R) = false := decide_eq_false (by have := hcov.2 (Int.not_lt.1 fun h => hic (hcu2.2 h)); omega)
      clear hcov hcu2 o1 o2 o3 o4 n1 n2 n3 n4 ro rn hcu P
      go_wp2_with fail
      (with_reducible refine (HC.out _).mono ?_); rintro e wk1 ⟨rfl, hb⟩
      have SK1 := GS2.later (w0 := w0) (B := w0.heap.size) ⟨g1, g2, g3, g4, g5, g6, F⟩ hb
      clear hb g1 g2 g3 g4 g5 g6 F
      obtain ⟨g1, g2, g3, g4, g5, g6, F⟩ := SK1
      go_wp2_with fail
      (with_reducible refine (HO.out _).mono ?_); rintro e wk2 ⟨rfl, hb⟩
      have SK2 := GS2.later (w0 := w0) (B := w0.heap.size) ⟨g1, g2, g3, g4, g5, g6, F⟩ hb
      clear hb g1 g2 g3 g4 g5 g6 F
      obtain ⟨g1, g2, g3, g4, g5, g6, F⟩ := SK2
      go_wp2_with fail
      (with_reducible refine (HN.out _).mono ?_); rintro e wk3 ⟨rfl, hb⟩
      have SK3 := GS2.later (w0 := w0) (B := w0.heap.size) ⟨g1, g2, g3, g4, g5, g6, F⟩ hb
      clear hb g1 g2 g3 g4 g5 g6 F
      obtain ⟨g1, g2, g3, g4, g5, g6, F⟩ := SK3
      go_wp2_with fail
      exact HK.out _ _ _ _ _ _ _ _ _ _ _ _ _ _ _ _ _ _ _ _ _ _ _ _ _ _ _ _ _ _ _ _ _ _ _ _ _ _ _ _ _ _ _ _ _ _ _ _ _ _ _ _ _ _ _ _ _ ⟨by omega, ⟨g1, g2, g3, g4, g5, g6, F⟩⟩ (by omega)
  · have i1 : decide ((i : Int) < wa * 16) = false := decide_eq_false hlt
    clear HK hcu P hwb hle hwa
    go_wp2_with fail
    (with_reducible refine (HC.out _).mono ?_); rintro e wk4 ⟨rfl, hb⟩
    have SK4 := GS2.later (w0 := w0) (B := w0.heap.size) ⟨g1, g2, g3, g4, g5, g6, F⟩ hb
    clear hb g1 g2 g3 g4 g5 g6 F
    obtain ⟨g1, g2, g3, g4, g5, g6, F⟩ := SK4
    go_wp2_with fail
    exact HX.out _ _ _ _ _ _ _ _ _ _ _ _ _ _ _ _ _ _ _ _ _ _ _ _ _ _ _ _ _ _ _ _ _ _ _ _ _ _ _ _ _ _ _ _ _ _ _ _ _ _ _ _ _ _ _ _ _ ⟨hi, ⟨g1, g2, g3, g4, g5, g6, F⟩⟩ trivial
set_option maxRecDepth 100000 in
set_option maxHeartbeats 3200000 in
theorem pcB {w0 : World} {gb : Nat} {l d c l' d' c' R Wn wa wb : Int} {k : Nat} {cu : Int}  {w : World} (u0 u1 u2 u3 u11 u12 u13 u14 u15 u16 u17 u18 u19 u20 u21 u22 u23 u24 u25 u26 u27 u28 u29 u30 u31 u32 u33 u34 u35 u36 u37 u38 u39 u40 u41 u42 u43 u44 u45 u46 u47 u48 u49 u50 u51 u52 u53 u54 u55 u56 u57 u58 u59 u60 u61 u62 u63 u64 u65 u66 u67 u68 u69 u70 u71 u72 u73 u74 u75 u76 u77 u78 u79 u80 u81 u82 u83 u84 u85 u86 u87 u88 u89 u90 u91 : Value) (Q : Exit → Act → World → Prop) (P : Pn l d c l' d' c' R Wn wa wb) (hk : k ≤ 16) (hcu : ∀ i : Int, i < wa * 16 → (i < cu ↔ i < (k : Int) * (R * wb))) (hI : (0 ≤ 112 ∧ GS2 w0 w0.heap.size gb (gb + 1) l d c l' d' c' w))
    (hX : ∀ (v11 v12 v13 v14 v15 v16 v37 v38 v39 v40 v41 v42 v43 v44 v45 v46 v47 v48 v49 v50 v51 v52 v53 v54 v55 v56 v57 v58 v59 v60 v61 v62 v63 v64 v65 v66 v67 v68 v69 v70 v71 v72 v73 v74 v75 v76 v77 v78 v79 v80 v81 v82 v83 v84 v85 v86 : Value) (i : Nat) (V : World), (i ≤ 112 ∧ GS2 w0 w0.heap.size gb (gb + 1) l d c l' d' c' V) → (True) → Q (.exit 2) ⟨List.toArray (u0 :: u1 :: u2 :: u3 :: (.bool false) :: (.pointer (some ⟨gb, 0, none⟩)) :: (.pointer (some ⟨gb + 1, 0, none⟩)) :: (.int .i64 R) :: (.int .i64 (k : Int)) :: (.int .i64 cu) :: (.int .i64 ((i : Nat) : Int)) :: v11 :: v12 :: v13 :: v14 :: v15 :: v16 :: u17 :: u18 :: u19 :: u20 :: u21 :: u22 :: u23 :: u24 :: u25 :: u26 :: u27 :: u28 :: u29 :: u30 :: u31 :: u32 :: u33 :: u34 :: u35 :: u36 :: v37 :: v38 :: v39 :: v40 :: v41 :: v42 :: v43 :: v44 :: v45 :: v46 :: v47 :: v48 :: v49 :: v50 :: v51 :: v52 :: v53 :: v54 :: v55 :: v56 :: v57 :: v58 :: v59 :: v60 :: v61 :: v62 :: v63 :: v64 :: v65 :: v66 :: v67 :: v68 :: v69 :: v70 :: v71 :: v72 :: v73 :: v74 :: v75 :: v76 :: v77 :: v78 :: v79 :: v80 :: v81 :: v82 :: v83 :: v84 :: v85 :: v86 :: u87 :: u88 :: u89 :: u90 :: u91 :: []), []⟩ V) :
    Code.wp Try.prog (.loop (sub [1, 1, 1, 0, 1, 0, 0, 1, 0, 0, 1, 1, 0, 0] codePC)) Q ⟨List.toArray (u0 :: u1 :: u2 :: u3 :: (.bool false) :: (.pointer (some ⟨gb, 0, none⟩)) :: (.pointer (some ⟨gb + 1, 0, none⟩)) :: (.int .i64 R) :: (.int .i64 (k : Int)) :: (.int .i64 cu) :: (.int .i64 ((0 : Nat) : Int)) :: u11 :: u12 :: u13 :: u14 :: u15 :: u16 :: u17 :: u18 :: u19 :: u20 :: u21 :: u22 :: u23 :: u24 :: u25 :: u26 :: u27 :: u28 :: u29 :: u30 :: u31 :: u32 :: u33 :: u34 :: u35 :: u36 :: u37 :: u38 :: u39 :: u40 :: u41 :: u42 :: u43 :: u44 :: u45 :: u46 :: u47 :: u48 :: u49 :: u50 :: u51 :: u52 :: u53 :: u54 :: u55 :: u56 :: u57 :: u58 :: u59 :: u60 :: u61 :: u62 :: u63 :: u64 :: u65 :: u66 :: u67 :: u68 :: u69 :: u70 :: u71 :: u72 :: u73 :: u74 :: u75 :: u76 :: u77 :: u78 :: u79 :: u80 :: u81 :: u82 :: u83 :: u84 :: u85 :: u86 :: u87 :: u88 :: u89 :: u90 :: u91 :: []), []⟩ w := by
  refine wp_loop_ghost (fun gk a V => ∀ C : Prop, (∀ (u11 u12 u13 u14 u15 u16 u37 u38 u39 u40 u41 u42 u43 u44 u45 u46 u47 u48 u49 u50 u51 u52 u53 u54 u55 u56 u57 u58 u59 u60 u61 u62 u63 u64 u65 u66 u67 u68 u69 u70 u71 u72 u73 u74 u75 u76 u77 u78 u79 u80 u81 u82 u83 u84 u85 u86 : Value) (i : Nat), gk = 113 - i → (i ≤ 112 ∧ GS2 w0 w0.heap.size gb (gb + 1) l d c l' d' c' V) → a = ⟨List.toArray (u0 :: u1 :: u2 :: u3 :: (.bool false) :: (.pointer (some ⟨gb, 0, none⟩)) :: (.pointer (some ⟨gb + 1, 0, none⟩)) :: (.int .i64 R) :: (.int .i64 (k : Int)) :: (.int .i64 cu) :: (.int .i64 ((i : Nat) : Int)) :: u11 :: u12 :: u13 :: u14 :: u15 :: u16 :: u17 :: u18 :: u19 :: u20 :: u21 :: u22 :: u23 :: u24 :: u25 :: u26 :: u27 :: u28 :: u29 :: u30 :: u31 :: u32 :: u33 :: u34 :: u35 :: u36 :: u37 :: u38 :: u39 :: u40 :: u41 :: u42 :: u43 :: u44 :: u45 :: u46 :: u47 :: u48 :: u49 :: u50 :: u51 :: u52 :: u53 :: u54 :: u55 :: u56 :: u57 :: u58 :: u59 :: u60 :: u61 :: u62 :: u63 :: u64 :: u65 :: u66 :: u67 :: u68 :: u69 :: u70 :: u71 :: u72 :: u73 :: u74 :: u75 :: u76 :: u77 :: u78 :: u79 :: u80 :: u81 :: u82 :: u83 :: u84 :: u85 :: u86 :: u87 :: u88 :: u89 :: u90 :: u91 :: []), []⟩ → C) → C) (113 - 0) ?_ ?_
  · intro C hC
    exact hC _ _ _ _ _ _ _ _ _ _ _ _ _ _ _ _ _ _ _ _ _ _ _ _ _ _ _ _ _ _ _ _ _ _ _ _ _ _ _ _ _ _ _ _ _ _ _ _ _ _ _ _ _ _ _ _ (0) rfl hI rfl
  · intro gk a V hI'
    refine hI' _ ?_
    intro u11 u12 u13 u14 u15 u16 u37 u38 u39 u40 u41 u42 u43 u44 u45 u46 u47 u48 u49 u50 u51 u52 u53 u54 u55 u56 u57 u58 u59 u60 u61 u62 u63 u64 u65 u66 u67 u68 u69 u70 u71 u72 u73 u74 u75 u76 u77 u78 u79 u80 u81 u82 u83 u84 u85 u86 i hk hinv ha
    subst ha
    subst hk
    refine pcBb _ _ _ _ _ _ _ _ _ _ _ _ _ _ _ _ _ _ _ _ _ _ _ _ _ _ _ _ _ _ _ _ _ _ _ _ _ _ _ _ _ _ _ _ _ _ _ _ _ _ _ _ _ _ _ _ _ _ _ _ _ _ _ _ _ _ _ _ _ _ _ _ _ _ _ _ _ _ _ _ _ _ _ _ _ _ _ P hk hcu hinv (fun v11 v12 v13 v14 v15 v16 v37 v38 v39 v40 v41 v42 v43 v44 v45 v46 v47 v48 v49 v50 v51 v52 v53 v54 v55 v56 v57 v58 v59 v60 v61 v62 v63 v64 v65 v66 v67 v68 v69 v70 v71 v72 v73 v74 v75 v76 v77 v78 v79 v80 v81 v82 v83 v84 v85 v86  V2 h2 hm => ?_) (fun v11 v12 v13 v14 v15 v16 v37 v38 v39 v40 v41 v42 v43 v44 v45 v46 v47 v48 v49 v50 v51 v52 v53 v54 v55 v56 v57 v58 v59 v60 v61 v62 v63 v64 v65 v66 v67 v68 v69 v70 v71 v72 v73 v74 v75 v76 v77 v78 v79 v80 v81 v82 v83 v84 v85 v86 V2 hinv2 hx => hX v11 v12 v13 v14 v15 v16 v37 v38 v39 v40 v41 v42 v43 v44 v45 v46 v47 v48 v49 v50 v51 v52 v53 v54 v55 v56 v57 v58 v59 v60 v61 v62 v63 v64 v65 v66 v67 v68 v69 v70 v71 v72 v73 v74 v75 v76 v77 v78 v79 v80 v81 v82 v83 v84 v85 v86 i V2 hinv2 hx)
    refine ⟨_, hm, fun C hC => ?_⟩
    exact hC v11 v12 v13 v14 v15 v16 v37 v38 v39 v40 v41 v42 v43 v44 v45 v46 v47 v48 v49 v50 v51 v52 v53 v54 v55 v56 v57 v58 v59 v60 v61 v62 v63 v64 v65 v66 v67 v68 v69 v70 v71 v72 v73 v74 v75 v76 v77 v78 v79 v80 v81 v82 v83 v84 v85 v86 ((i + 1)) rfl h2 rfl
set_option maxRecDepth 100000 in
set_option maxHeartbeats 3200000 in
theorem pcAb {w0 : World} {gb : Nat} {l d c l' d' c' R Wn wa wb : Int} {k : Nat} {w : World} (u0 u1 u2 u3 u9 u10 u11 u12 u13 u14 u15 u16 u17 u18 u19 u20 u21 u22 u23 u24 u25 u26 u27 u28 u29 u30 u31 u32 u33 u34 u35 u36 u37 u38 u39 u40 u41 u42 u43 u44 u45 u46 u47 u48 u49 u50 u51 u52 u53 u54 u55 u56 u57 u58 u59 u60 u61 u62 u63 u64 u65 u66 u67 u68 u69 u70 u71 u72 u73 u74 u75 u76 u77 u78 u79 u80 u81 u82 u83 u84 u85 u86 u87 u88 u89 u90 u91 : Value) (K : Act → World → Prop) (Q0 : Exit → Act → World → Prop) (P : Pn l d c l' d' c' R Wn wa wb) (hI : (k ≤ 17 ∧ GS2 w0 w0.heap.size gb (gb + 1) l d c l' d' c' w))
    (hK : ∀ (v9 v10 v11 v12 v13 v14 v15 v16 v26 v27 v28 v29 v30 v31 v32 v33 v34 v35 v36 v37 v38 v39 v40 v41 v42 v43 v44 v45 v46 v47 v48 v49 v50 v51 v52 v53 v54 v55 v56 v57 v58 v59 v60 v61 v62 v63 v64 v65 v66 v67 v68 v69 v70 v71 v72 v73 v74 v75 v76 v77 v78 v79 v80 v81 v82 v83 v84 v85 v86 : Value)  (V : World), ((k + 1) ≤ 17 ∧ GS2 w0 w0.heap.size gb (gb + 1) l d c l' d' c' V) → 18 - (k + 1) < 18 - k → K ⟨List.toArray (u0 :: u1 :: u2 :: u3 :: (.bool false) :: (.pointer (some ⟨gb, 0, none⟩)) :: (.pointer (some ⟨gb + 1, 0, none⟩)) :: (.int .i64 R) :: (.int .i64 (((k + 1) : Nat) : Int)) :: v9 :: v10 :: v11 :: v12 :: v13 :: v14 :: v15 :: v16 :: u17 :: u18 :: u19 :: u20 :: u21 :: u22 :: u23 :: u24 :: u25 :: v26 :: v27 :: v28 :: v29 :: v30 :: v31 :: v32 :: v33 :: v34 :: v35 :: v36 :: v37 :: v38 :: v39 :: v40 :: v41 :: v42 :: v43 :: v44 :: v45 :: v46 :: v47 :: v48 :: v49 :: v50 :: v51 :: v52 :: v53 :: v54 :: v55 :: v56 :: v57 :: v58 :: v59 :: v60 :: v61 :: v62 :: v63 :: v64 :: v65 :: v66 :: v67 :: v68 :: v69 :: v70 :: v71 :: v72 :: v73 :: v74 :: v75 :: v76 :: v77 :: v78 :: v79 :: v80 :: v81 :: v82 :: v83 :: v84 :: v85 :: v86 :: u87 :: u88 :: u89 :: u90 :: u91 :: []), []⟩ V)
    (hX : ∀ (v9 v10 v11 v12 v13 v14 v15 v16 v26 v27 v28 v29 v30 v31 v32 v33 v34 v35 v36 v37 v38 v39 v40 v41 v42 v43 v44 v45 v46 v47 v48 v49 v50 v51 v52 v53 v54 v55 v56 v57 v58 v59 v60 v61 v62 v63 v64 v65 v66 v67 v68 v69 v70 v71 v72 v73 v74 v75 v76 v77 v78 v79 v80 v81 v82 v83 v84 v85 v86 : Value) (V : World), (k ≤ 17 ∧ GS2 w0 w0.heap.size gb (gb + 1) l d c l' d' c' V) → (True) → Q0 (.exit 0) ⟨List.toArray (u0 :: u1 :: u2 :: u3 :: (.bool false) :: (.pointer (some ⟨gb, 0, none⟩)) :: (.pointer (some ⟨gb + 1, 0, none⟩)) :: (.int .i64 R) :: (.int .i64 ((k : Nat) : Int)) :: v9 :: v10 :: v11 :: v12 :: v13 :: v14 :: v15 :: v16 :: u17 :: u18 :: u19 :: u20 :: u21 :: u22 :: u23 :: u24 :: u25 :: v26 :: v27 :: v28 :: v29 :: v30 :: v31 :: v32 :: v33 :: v34 :: v35 :: v36 :: v37 :: v38 :: v39 :: v40 :: v41 :: v42 :: v43 :: v44 :: v45 :: v46 :: v47 :: v48 :: v49 :: v50 :: v51 :: v52 :: v53 :: v54 :: v55 :: v56 :: v57 :: v58 :: v59 :: v60 :: v61 :: v62 :: v63 :: v64 :: v65 :: v66 :: v67 :: v68 :: v69 :: v70 :: v71 :: v72 :: v73 :: v74 :: v75 :: v76 :: v77 :: v78 :: v79 :: v80 :: v81 :: v82 :: v83 :: v84 :: v85 :: v86 :: u87 :: u88 :: u89 :: u90 :: u91 :: []), []⟩ V) :
    Code.wp Try.prog (sub [1, 1, 1, 0, 1, 0, 0] codePC) (Exit.then K Q0) ⟨List.toArray (u0 :: u1 :: u2 :: u3 :: (.bool false) :: (.pointer (some ⟨gb, 0, none⟩)) :: (.pointer (some ⟨gb + 1, 0, none⟩)) :: (.int .i64 R) :: (.int .i64 ((k : Nat) : Int)) :: u9 :: u10 :: u11 :: u12 :: u13 :: u14 :: u15 :: u16 :: u17 :: u18 :: u19 :: u20 :: u21 :: u22 :: u23 :: u24 :: u25 :: u26 :: u27 :: u28 :: u29 :: u30 :: u31 :: u32 :: u33 :: u34 :: u35 :: u36 :: u37 :: u38 :: u39 :: u40 :: u41 :: u42 :: u43 :: u44 :: u45 :: u46 :: u47 :: u48 :: u49 :: u50 :: u51 :: u52 :: u53 :: u54 :: u55 :: u56 :: u57 :: u58 :: u59 :: u60 :: u61 :: u62 :: u63 :: u64 :: u65 :: u66 :: u67 :: u68 :: u69 :: u70 :: u71 :: u72 :: u73 :: u74 :: u75 :: u76 :: u77 :: u78 :: u79 :: u80 :: u81 :: u82 :: u83 :: u84 :: u85 :: u86 :: u87 :: u88 :: u89 :: u90 :: u91 :: []), []⟩ w := by
  have HK := Lib.hid hK
  have HX := Lib.hid hX
  clear hK hX
  conv => arg 2; whnf
  obtain ⟨hk, hS⟩ := hI
  have HW := Lib.hid (fun V => P.pwins V)
  have hK := P.rows
  obtain ⟨g1, g2, g3, g4, g5, g6, F⟩ := hS
  by_cases hlt : (k : Int) ≤ Wn
  · have k0 : (0 : Int) ≤ (k : Int) := by omega
    have hlt2 : decide ((k : Int) ≤ Wn) = true := decide_eq_true hlt
    have HC := Lib.hid (fun V => P.pcur k0 hlt V)
    obtain ⟨_, _, hcu⟩ := P.cur (k := (k : Int)) k0 (by omega)
    generalize pnX R wa wb (k : Int) = cu at HC hcu
    have HP := Lib.hid P
    have hk16 : k ≤ 16 := by omega
    have Hcu := Lib.hid hcu
    clear P hcu hlt HX hK
    go_wp2_with fail
    (with_reducible refine (HW.out _).mono ?_); rintro e wk5 ⟨rfl, hb⟩
    have SK5 := GS2.later (w0 := w0) (B := w0.heap.size) ⟨g1, g2, g3, g4, g5, g6, F⟩ hb
    clear hb g1 g2 g3 g4 g5 g6 F
    obtain ⟨g1, g2, g3, g4, g5, g6, F⟩ := SK5
    go_wp2_with fail
    (with_reducible refine (HC.out _).mono ?_); rintro e wk6 ⟨rfl, hb⟩
    have SK6 := GS2.later (w0 := w0) (B := w0.heap.size) ⟨g1, g2, g3, g4, g5, g6, F⟩ hb
    clear hb g1 g2 g3 g4 g5 g6 F
    obtain ⟨g1, g2, g3, g4, g5, g6, F⟩ := SK6
    go_upto_block 2 with fail
    refine wp_block ?_
    refine pcB _ _ _ _ _ _ _ _ _ _ _ _ _ _ _ _ _ _ _ _ _ _ _ _ _ _ _ _ _ _ _ _ _ _ _ _ _ _ _ _ _ _ _ _ _ _ _ _ _ _ _ _ _ _ _ _ _ _ _ _ _ _ _ _ _ _ _ _ _ _ _ _ _ _ _ _ _ _ _ _ _ _ _ _ _ _ HP.out hk16 Hcu.out ⟨by omega, ⟨g1, g2, g3, g4, g5, g6, F⟩⟩ (fun v11 v12 v13 v14 v15 v16 v37 v38 v39 v40 v41 v42 v43 v44 v45 v46 v47 v48 v49 v50 v51 v52 v53 v54 v55 v56 v57 v58 v59 v60 v61 v62 v63 v64 v65 v66 v67 v68 v69 v70 v71 v72 v73 v74 v75 v76 v77 v78 v79 v80 v81 v82 v83 v84 v85 v86 i V2 hI2 hx => ?_)
    obtain ⟨_, hS2⟩ := hI2
    clear g1 g2 g3 g4 g5 g6 F
    obtain ⟨g1, g2, g3, g4, g5, g6, F⟩ := hS2
    go_wp2_with fail
    exact HK.out _ _ _ _ _ _ _ _ _ _ _ _ _ _ _ _ _ _ _ _ _ _ _ _ _ _ _ _ _ _ _ _ _ _ _ _ _ _ _ _ _ _ _ _ _ _ _ _ _ _ _ _ _ _ _ _ _ _ _ _ _ _ _ _ _ _ _ _ _ _ ⟨by omega, ⟨g1, g2, g3, g4, g5, g6, F⟩⟩ (by omega)
  · have i1 : decide ((k : Int) ≤ Wn) = false := decide_eq_false hlt
    clear HK P hK
    go_wp2_with fail
    (with_reducible refine (HW.out _).mono ?_); rintro e wk7 ⟨rfl, hb⟩
    have SK7 := GS2.later (w0 := w0) (B := w0.heap.size) ⟨g1, g2, g3, g4, g5, g6, F⟩ hb
    clear hb g1 g2 g3 g4 g5 g6 F
    obtain ⟨g1, g2, g3, g4, g5, g6, F⟩ := SK7
    go_wp2_with fail
    exact HX.out _ _ _ _ _ _ _ _ _ _ _ _ _ _ _ _ _ _ _ _ _ _ _ _ _ _ _ _ _ _ _ _ _ _ _ _ _ _ _ _ _ _ _ _ _ _ _ _ _ _ _ _ _ _ _ _ _ _ _ _ _ _ _ _ _ _ _ _ _ _ ⟨hk, ⟨g1, g2, g3, g4, g5, g6, F⟩⟩ trivial
set_option maxRecDepth 100000 in
set_option maxHeartbeats 3200000 in
theorem pcA {w0 : World} {gb : Nat} {l d c l' d' c' R Wn wa wb : Int}  {w : World} (u0 u1 u2 u3 u9 u10 u11 u12 u13 u14 u15 u16 u17 u18 u19 u20 u21 u22 u23 u24 u25 u26 u27 u28 u29 u30 u31 u32 u33 u34 u35 u36 u37 u38 u39 u40 u41 u42 u43 u44 u45 u46 u47 u48 u49 u50 u51 u52 u53 u54 u55 u56 u57 u58 u59 u60 u61 u62 u63 u64 u65 u66 u67 u68 u69 u70 u71 u72 u73 u74 u75 u76 u77 u78 u79 u80 u81 u82 u83 u84 u85 u86 u87 u88 u89 u90 u91 : Value) (Q : Exit → Act → World → Prop) (P : Pn l d c l' d' c' R Wn wa wb) (hI : (0 ≤ 17 ∧ GS2 w0 w0.heap.size gb (gb + 1) l d c l' d' c' w))
    (hX : ∀ (v9 v10 v11 v12 v13 v14 v15 v16 v26 v27 v28 v29 v30 v31 v32 v33 v34 v35 v36 v37 v38 v39 v40 v41 v42 v43 v44 v45 v46 v47 v48 v49 v50 v51 v52 v53 v54 v55 v56 v57 v58 v59 v60 v61 v62 v63 v64 v65 v66 v67 v68 v69 v70 v71 v72 v73 v74 v75 v76 v77 v78 v79 v80 v81 v82 v83 v84 v85 v86 : Value) (k : Nat) (V : World), (k ≤ 17 ∧ GS2 w0 w0.heap.size gb (gb + 1) l d c l' d' c' V) → (True) → Q (.exit 0) ⟨List.toArray (u0 :: u1 :: u2 :: u3 :: (.bool false) :: (.pointer (some ⟨gb, 0, none⟩)) :: (.pointer (some ⟨gb + 1, 0, none⟩)) :: (.int .i64 R) :: (.int .i64 ((k : Nat) : Int)) :: v9 :: v10 :: v11 :: v12 :: v13 :: v14 :: v15 :: v16 :: u17 :: u18 :: u19 :: u20 :: u21 :: u22 :: u23 :: u24 :: u25 :: v26 :: v27 :: v28 :: v29 :: v30 :: v31 :: v32 :: v33 :: v34 :: v35 :: v36 :: v37 :: v38 :: v39 :: v40 :: v41 :: v42 :: v43 :: v44 :: v45 :: v46 :: v47 :: v48 :: v49 :: v50 :: v51 :: v52 :: v53 :: v54 :: v55 :: v56 :: v57 :: v58 :: v59 :: v60 :: v61 :: v62 :: v63 :: v64 :: v65 :: v66 :: v67 :: v68 :: v69 :: v70 :: v71 :: v72 :: v73 :: v74 :: v75 :: v76 :: v77 :: v78 :: v79 :: v80 :: v81 :: v82 :: v83 :: v84 :: v85 :: v86 :: u87 :: u88 :: u89 :: u90 :: u91 :: []), []⟩ V) :
    Code.wp Try.prog (.loop (sub [1, 1, 1, 0, 1, 0, 0] codePC)) Q ⟨List.toArray (u0 :: u1 :: u2 :: u3 :: (.bool false) :: (.pointer (some ⟨gb, 0, none⟩)) :: (.pointer (some ⟨gb + 1, 0, none⟩)) :: (.int .i64 R) :: (.int .i64 ((0 : Nat) : Int)) :: u9 :: u10 :: u11 :: u12 :: u13 :: u14 :: u15 :: u16 :: u17 :: u18 :: u19 :: u20 :: u21 :: u22 :: u23 :: u24 :: u25 :: u26 :: u27 :: u28 :: u29 :: u30 :: u31 :: u32 :: u33 :: u34 :: u35 :: u36 :: u37 :: u38 :: u39 :: u40 :: u41 :: u42 :: u43 :: u44 :: u45 :: u46 :: u47 :: u48 :: u49 :: u50 :: u51 :: u52 :: u53 :: u54 :: u55 :: u56 :: u57 :: u58 :: u59 :: u60 :: u61 :: u62 :: u63 :: u64 :: u65 :: u66 :: u67 :: u68 :: u69 :: u70 :: u71 :: u72 :: u73 :: u74 :: u75 :: u76 :: u77 :: u78 :: u79 :: u80 :: u81 :: u82 :: u83 :: u84 :: u85 :: u86 :: u87 :: u88 :: u89 :: u90 :: u91 :: []), []⟩ w := by
  refine wp_loop_ghost (fun gk a V => ∀ C : Prop, (∀ (u9 u10 u11 u12 u13 u14 u15 u16 u26 u27 u28 u29 u30 u31 u32 u33 u34 u35 u36 u37 u38 u39 u40 u41 u42 u43 u44 u45 u46 u47 u48 u49 u50 u51 u52 u53 u54 u55 u56 u57 u58 u59 u60 u61 u62 u63 u64 u65 u66 u67 u68 u69 u70 u71 u72 u73 u74 u75 u76 u77 u78 u79 u80 u81 u82 u83 u84 u85 u86 : Value) (k : Nat), gk = 18 - k → (k ≤ 17 ∧ GS2 w0 w0.heap.size gb (gb + 1) l d c l' d' c' V) → a = ⟨List.toArray (u0 :: u1 :: u2 :: u3 :: (.bool false) :: (.pointer (some ⟨gb, 0, none⟩)) :: (.pointer (some ⟨gb + 1, 0, none⟩)) :: (.int .i64 R) :: (.int .i64 ((k : Nat) : Int)) :: u9 :: u10 :: u11 :: u12 :: u13 :: u14 :: u15 :: u16 :: u17 :: u18 :: u19 :: u20 :: u21 :: u22 :: u23 :: u24 :: u25 :: u26 :: u27 :: u28 :: u29 :: u30 :: u31 :: u32 :: u33 :: u34 :: u35 :: u36 :: u37 :: u38 :: u39 :: u40 :: u41 :: u42 :: u43 :: u44 :: u45 :: u46 :: u47 :: u48 :: u49 :: u50 :: u51 :: u52 :: u53 :: u54 :: u55 :: u56 :: u57 :: u58 :: u59 :: u60 :: u61 :: u62 :: u63 :: u64 :: u65 :: u66 :: u67 :: u68 :: u69 :: u70 :: u71 :: u72 :: u73 :: u74 :: u75 :: u76 :: u77 :: u78 :: u79 :: u80 :: u81 :: u82 :: u83 :: u84 :: u85 :: u86 :: u87 :: u88 :: u89 :: u90 :: u91 :: []), []⟩ → C) → C) (18 - 0) ?_ ?_
  · intro C hC
    exact hC _ _ _ _ _ _ _ _ _ _ _ _ _ _ _ _ _ _ _ _ _ _ _ _ _ _ _ _ _ _ _ _ _ _ _ _ _ _ _ _ _ _ _ _ _ _ _ _ _ _ _ _ _ _ _ _ _ _ _ _ _ _ _ _ _ _ _ _ _ (0) rfl hI rfl
  · intro gk a V hI'
    refine hI' _ ?_
    intro u9 u10 u11 u12 u13 u14 u15 u16 u26 u27 u28 u29 u30 u31 u32 u33 u34 u35 u36 u37 u38 u39 u40 u41 u42 u43 u44 u45 u46 u47 u48 u49 u50 u51 u52 u53 u54 u55 u56 u57 u58 u59 u60 u61 u62 u63 u64 u65 u66 u67 u68 u69 u70 u71 u72 u73 u74 u75 u76 u77 u78 u79 u80 u81 u82 u83 u84 u85 u86 k hk hinv ha
    subst ha
    subst hk
    refine pcAb _ _ _ _ _ _ _ _ _ _ _ _ _ _ _ _ _ _ _ _ _ _ _ _ _ _ _ _ _ _ _ _ _ _ _ _ _ _ _ _ _ _ _ _ _ _ _ _ _ _ _ _ _ _ _ _ _ _ _ _ _ _ _ _ _ _ _ _ _ _ _ _ _ _ _ _ _ _ _ _ _ _ _ _ _ _ _ _ _ P hinv (fun v9 v10 v11 v12 v13 v14 v15 v16 v26 v27 v28 v29 v30 v31 v32 v33 v34 v35 v36 v37 v38 v39 v40 v41 v42 v43 v44 v45 v46 v47 v48 v49 v50 v51 v52 v53 v54 v55 v56 v57 v58 v59 v60 v61 v62 v63 v64 v65 v66 v67 v68 v69 v70 v71 v72 v73 v74 v75 v76 v77 v78 v79 v80 v81 v82 v83 v84 v85 v86  V2 h2 hm => ?_) (fun v9 v10 v11 v12 v13 v14 v15 v16 v26 v27 v28 v29 v30 v31 v32 v33 v34 v35 v36 v37 v38 v39 v40 v41 v42 v43 v44 v45 v46 v47 v48 v49 v50 v51 v52 v53 v54 v55 v56 v57 v58 v59 v60 v61 v62 v63 v64 v65 v66 v67 v68 v69 v70 v71 v72 v73 v74 v75 v76 v77 v78 v79 v80 v81 v82 v83 v84 v85 v86 V2 hinv2 hx => hX v9 v10 v11 v12 v13 v14 v15 v16 v26 v27 v28 v29 v30 v31 v32 v33 v34 v35 v36 v37 v38 v39 v40 v41 v42 v43 v44 v45 v46 v47 v48 v49 v50 v51 v52 v53 v54 v55 v56 v57 v58 v59 v60 v61 v62 v63 v64 v65 v66 v67 v68 v69 v70 v71 v72 v73 v74 v75 v76 v77 v78 v79 v80 v81 v82 v83 v84 v85 v86 k V2 hinv2 hx)
    refine ⟨_, hm, fun C hC => ?_⟩
    exact hC v9 v10 v11 v12 v13 v14 v15 v16 v26 v27 v28 v29 v30 v31 v32 v33 v34 v35 v36 v37 v38 v39 v40 v41 v42 v43 v44 v45 v46 v47 v48 v49 v50 v51 v52 v53 v54 v55 v56 v57 v58 v59 v60 v61 v62 v63 v64 v65 v66 v67 v68 v69 v70 v71 v72 v73 v74 v75 v76 v77 v78 v79 v80 v81 v82 v83 v84 v85 v86 ((k + 1)) rfl h2 rfl
end Go.Proofs.Ytabeadbnoifedaa
