/- PlanRises: its loop. -/
import Derived.Test.YtabeadbnoifedaaPlanKit
import Derived.Test.YtabeadbnoifedaaSub
set_option linter.unusedVariables false
set_option linter.unusedSimpArgs false
namespace Go.Proofs.Ytabeadbnoifedaa
open Go.RowKit

noncomputable def codePRi : Code := Try.f4.body.getD .skip
set_option maxRecDepth 100000 in
set_option maxHeartbeats 3200000 in
theorem prib {w0 : World} {gb : Nat} {l d c l' d' c' R Wn wa wb : Int} {k : Nat} {la : Int} {sz : Int} {w : World} (u0 u1 u2 u3 u11 u12 u13 u14 u15 u16 u17 u18 u19 u20 u21 u22 u23 u24 u25 u26 u27 u28 u29 u30 u31 u32 u33 u34 u35 u36 u37 u38 u39 u40 u41 u42 u43 u44 u45 u46 u47 u48 u49 u50 u51 u52 u53 u54 u55 u56 u57 u58 u59 u60 u61 u62 u63 u64 u65 u66 u67 u68 u69 u70 u71 u72 u73 u74 u75 u76 u77 u78 u79 u80 u81 u82 u83 u84 u85 u86 u87 u88 u89 u90 : Value) (K : Act → World → Prop) (Q0 : Exit → Act → World → Prop) (P : Pn l d c l' d' c' R Wn wa wb) (hI : (((k : Nat) : Int) ≤ Wn + 1 ∧ (k = 0 → la = 0) ∧ (0 < k → la = pnX R wa wb (((k : Nat) : Int) - 1)) ∧ (0 < k → sz = R * wb) ∧ GS2 w0 w0.heap.size gb (gb + 1) l d c l' d' c' w))
    (hK : ∀ (v11 v12 v13 v23 v24 v25 v26 v27 v28 v29 v30 v31 v32 v33 v34 v35 v36 v37 v38 v39 v40 v41 v42 v43 v44 v45 v46 v47 v48 v49 v50 v51 v52 v53 v54 v55 v56 v57 v58 v59 v60 v61 v62 v63 v64 v65 : Value) (la2 : Int) (sz2 : Int) (V : World), ((((k + 1) : Nat) : Int) ≤ Wn + 1 ∧ ((k + 1) = 0 → la2 = 0) ∧ (0 < (k + 1) → la2 = pnX R wa wb ((((k + 1) : Nat) : Int) - 1)) ∧ (0 < (k + 1) → sz2 = R * wb) ∧ GS2 w0 w0.heap.size gb (gb + 1) l d c l' d' c' V) → 18 - (k + 1) < 18 - k → K ⟨List.toArray (u0 :: u1 :: u2 :: u3 :: (.bool false) :: (.pointer (some ⟨gb, 0, none⟩)) :: (.pointer (some ⟨gb + 1, 0, none⟩)) :: (.int .i64 Wn) :: (.int .i64 la2) :: (.int .i64 sz2) :: (.int .i64 (((k + 1) : Nat) : Int)) :: v11 :: v12 :: v13 :: u14 :: u15 :: u16 :: u17 :: u18 :: u19 :: u20 :: u21 :: u22 :: v23 :: v24 :: v25 :: v26 :: v27 :: v28 :: v29 :: v30 :: v31 :: v32 :: v33 :: v34 :: v35 :: v36 :: v37 :: v38 :: v39 :: v40 :: v41 :: v42 :: v43 :: v44 :: v45 :: v46 :: v47 :: v48 :: v49 :: v50 :: v51 :: v52 :: v53 :: v54 :: v55 :: v56 :: v57 :: v58 :: v59 :: v60 :: v61 :: v62 :: v63 :: v64 :: v65 :: u66 :: u67 :: u68 :: u69 :: u70 :: u71 :: u72 :: u73 :: u74 :: u75 :: u76 :: u77 :: u78 :: u79 :: u80 :: u81 :: u82 :: u83 :: u84 :: u85 :: u86 :: u87 :: u88 :: u89 :: u90 :: []), []⟩ V)
    (hX : ∀ (v11 v12 v13 v23 v24 v25 v26 v27 v28 v29 v30 v31 v32 v33 v34 v35 v36 v37 v38 v39 v40 v41 v42 v43 v44 v45 v46 v47 v48 v49 v50 v51 v52 v53 v54 v55 v56 v57 v58 v59 v60 v61 v62 v63 v64 v65 : Value), ((k : Int) = Wn + 1) → Q0 (.exit 0) ⟨List.toArray (u0 :: u1 :: u2 :: u3 :: (.bool false) :: (.pointer (some ⟨gb, 0, none⟩)) :: (.pointer (some ⟨gb + 1, 0, none⟩)) :: (.int .i64 Wn) :: (.int .i64 la) :: (.int .i64 sz) :: (.int .i64 ((k : Nat) : Int)) :: v11 :: v12 :: v13 :: u14 :: u15 :: u16 :: u17 :: u18 :: u19 :: u20 :: u21 :: u22 :: v23 :: v24 :: v25 :: v26 :: v27 :: v28 :: v29 :: v30 :: v31 :: v32 :: v33 :: v34 :: v35 :: v36 :: v37 :: v38 :: v39 :: v40 :: v41 :: v42 :: v43 :: v44 :: v45 :: v46 :: v47 :: v48 :: v49 :: v50 :: v51 :: v52 :: v53 :: v54 :: v55 :: v56 :: v57 :: v58 :: v59 :: v60 :: v61 :: v62 :: v63 :: v64 :: v65 :: u66 :: u67 :: u68 :: u69 :: u70 :: u71 :: u72 :: u73 :: u74 :: u75 :: u76 :: u77 :: u78 :: u79 :: u80 :: u81 :: u82 :: u83 :: u84 :: u85 :: u86 :: u87 :: u88 :: u89 :: u90 :: []), []⟩ w) :
    Code.wp Try.prog (sub [1, 1, 1, 1, 0, 1, 0, 0] codePRi) (Exit.then K Q0) ⟨List.toArray (u0 :: u1 :: u2 :: u3 :: (.bool false) :: (.pointer (some ⟨gb, 0, none⟩)) :: (.pointer (some ⟨gb + 1, 0, none⟩)) :: (.int .i64 Wn) :: (.int .i64 la) :: (.int .i64 sz) :: (.int .i64 ((k : Nat) : Int)) :: u11 :: u12 :: u13 :: u14 :: u15 :: u16 :: u17 :: u18 :: u19 :: u20 :: u21 :: u22 :: u23 :: u24 :: u25 :: u26 :: u27 :: u28 :: u29 :: u30 :: u31 :: u32 :: u33 :: u34 :: u35 :: u36 :: u37 :: u38 :: u39 :: u40 :: u41 :: u42 :: u43 :: u44 :: u45 :: u46 :: u47 :: u48 :: u49 :: u50 :: u51 :: u52 :: u53 :: u54 :: u55 :: u56 :: u57 :: u58 :: u59 :: u60 :: u61 :: u62 :: u63 :: u64 :: u65 :: u66 :: u67 :: u68 :: u69 :: u70 :: u71 :: u72 :: u73 :: u74 :: u75 :: u76 :: u77 :: u78 :: u79 :: u80 :: u81 :: u82 :: u83 :: u84 :: u85 :: u86 :: u87 :: u88 :: u89 :: u90 :: []), []⟩ w := by
  have HK := Lib.hid hK
  have HX := Lib.hid hX
  clear hK hX
  conv => arg 2; whnf
  obtain ⟨hk, hla0, hla1, hsz, hS⟩ := hI
  have hK := P.rows
  obtain ⟨g1, g2, g3, g4, g5, g6, F⟩ := hS
  by_cases hlt : (k : Int) ≤ Wn
  · have k0 : (0 : Int) ≤ (k : Int) := by omega
    have hlt2 : decide ((k : Int) ≤ Wn) = true := decide_eq_true hlt
    have HC := Lib.hid (fun V => P.pcur k0 hlt V)
    have HLT := Lib.hid hlt
    have hcz := P.cur0
    have hup := fun h : 1 ≤ (k : Int) => P.up h (by omega)
    have hcb := P.cur (k := (k : Int)) k0 (by omega)
    have hwa := P.wc
    by_cases hz : k = 0
    · have hl0 := hla0 hz
      have hcz2 : pnX R wa wb (k : Int) = 0 := by rw [hz]; exact hcz
      obtain ⟨cu, hcu⟩ : ∃ cu, pnX R wa wb (k : Int) = cu := ⟨_, rfl⟩
      rw [hcu] at HC hcz2 hcb
      replace hcu : cu = pnX R wa wb (((k + 1 : Nat) : Int) - 1) := by rw [show (((k + 1 : Nat) : Int) - 1) = (k : Int) by omega]; exact hcu.symm
      have hcb2 : cu ≤ wa * 16 := hcb.2.1
      clear hcb
      have e1 : decide (cu < la) = false := decide_eq_false (by omega)
      have e2 : ((k : Int) == 0) = true := by simp; omega
      have e3 : (cu != 0) = false := by simp; omega
      have e4 : ¬ 0 < k := by omega
      by_cases hlw : (k : Int) < Wn
      · have e5 : decide ((k : Int) < Wn) = true := decide_eq_true hlw
        have HSp := Lib.hid (fun V => P.pspan k0 hlw V)
        have hm1 := P.mul (k := (k : Int)) k0 (by omega)
        have hm2 := P.mul (k := (k : Int) + 1) (by omega) (by omega)
        have hxy : ((k : Int) + 1) * (R * wb) - (k : Int) * (R * wb) = R * wb := by rw [Int.add_mul, Int.one_mul]; omega
        generalize (k : Int) * (R * wb) = x at HSp hm1 hxy
        generalize ((k : Int) + 1) * (R * wb) = y at HSp hm2 hxy
        have HSZ := Lib.hid hxy
        have HCU := Lib.hid hcu
        clear hxy hcu P hz hl0 hcz2 hwa hlw hlt hla0 hla1 hsz HX hup hcz
        go_wp2_with fail
        (with_reducible refine (HC.out _).mono ?_); rintro e wk1 ⟨rfl, hb⟩
        have SK1 := GS2.later (w0 := w0) (B := w0.heap.size) ⟨g1, g2, g3, g4, g5, g6, F⟩ hb
        clear hb g1 g2 g3 g4 g5 g6 F
        obtain ⟨g1, g2, g3, g4, g5, g6, F⟩ := SK1
        go_wp2_with fail
        (with_reducible refine (HSp.out _).mono ?_); rintro e wk2 ⟨rfl, hb⟩
        have SK2 := GS2.later (w0 := w0) (B := w0.heap.size) ⟨g1, g2, g3, g4, g5, g6, F⟩ hb
        clear hb g1 g2 g3 g4 g5 g6 F
        obtain ⟨g1, g2, g3, g4, g5, g6, F⟩ := SK2
        go_wp2_with fail
        exact HK.out _ _ _ _ _ _ _ _ _ _ _ _ _ _ _ _ _ _ _ _ _ _ _ _ _ _ _ _ _ _ _ _ _ _ _ _ _ _ _ _ _ _ _ _ _ _ _ _ _ ⟨by have := HLT.out; omega, fun h => absurd h (by omega), fun _ => HCU.out, fun _ => HSZ.out, ⟨g1, g2, g3, g4, g5, g6, F⟩⟩ (by omega)
      · have e5 : decide ((k : Int) < Wn) = false := decide_eq_false hlw
        have HSZ := Lib.hid (show sz = R * wb from hsz (by omega))
        have HCU := Lib.hid hcu
        clear hcu P hz hl0 hcz2 hwa hlw hlt hla0 hla1 hsz HX hup hcz
        go_wp2_with fail
        (with_reducible refine (HC.out _).mono ?_); rintro e wk3 ⟨rfl, hb⟩
        have SK3 := GS2.later (w0 := w0) (B := w0.heap.size) ⟨g1, g2, g3, g4, g5, g6, F⟩ hb
        clear hb g1 g2 g3 g4 g5 g6 F
        obtain ⟨g1, g2, g3, g4, g5, g6, F⟩ := SK3
        go_wp2_with fail
        exact HK.out _ _ _ _ _ _ _ _ _ _ _ _ _ _ _ _ _ _ _ _ _ _ _ _ _ _ _ _ _ _ _ _ _ _ _ _ _ _ _ _ _ _ _ _ _ _ _ _ _ ⟨by have := HLT.out; omega, fun h => absurd h (by omega), fun _ => HCU.out, fun _ => HSZ.out, ⟨g1, g2, g3, g4, g5, g6, F⟩⟩ (by omega)
    · have hl1 := hla1 (by omega)
      have hup2 := hup (by omega)
      rw [← hl1] at hup2
      obtain ⟨cu, hcu⟩ : ∃ cu, pnX R wa wb (k : Int) = cu := ⟨_, rfl⟩
      rw [hcu] at HC hup2 hcb
      replace hcu : cu = pnX R wa wb (((k + 1 : Nat) : Int) - 1) := by rw [show (((k + 1 : Nat) : Int) - 1) = (k : Int) by omega]; exact hcu.symm
      have hcb2 : 0 ≤ cu ∧ cu ≤ wa * 16 := ⟨hcb.1, hcb.2.1⟩
      clear hcb hl1
      have e1 : decide (cu < la) = false := decide_eq_false (by omega)
      have e2 : ((k : Int) == 0) = false := by simp; omega
      have e4 : 0 < k := by omega
      by_cases hlw : (k : Int) < Wn
      · have e5 : decide ((k : Int) < Wn) = true := decide_eq_true hlw
        have HSp := Lib.hid (fun V => P.pspan k0 hlw V)
        have hm1 := P.mul (k := (k : Int)) k0 (by omega)
        have hm2 := P.mul (k := (k : Int) + 1) (by omega) (by omega)
        have hxy : ((k : Int) + 1) * (R * wb) - (k : Int) * (R * wb) = R * wb := by rw [Int.add_mul, Int.one_mul]; omega
        have hsz2 := hsz (by omega)
        generalize (k : Int) * (R * wb) = x at HSp hm1 hxy
        generalize ((k : Int) + 1) * (R * wb) = y at HSp hm2 hxy
        have e6 : (y - x != sz) = false := by simp; omega
        clear hsz2
        have HSZ := Lib.hid hxy
        have HCU := Lib.hid hcu
        clear hxy hcu P hz hup2 hwa hlw hlt hla0 hla1 hsz HX hup hcz
        go_wp2_with fail
        (with_reducible refine (HC.out _).mono ?_); rintro e wk4 ⟨rfl, hb⟩
        have SK4 := GS2.later (w0 := w0) (B := w0.heap.size) ⟨g1, g2, g3, g4, g5, g6, F⟩ hb
        clear hb g1 g2 g3 g4 g5 g6 F
        obtain ⟨g1, g2, g3, g4, g5, g6, F⟩ := SK4
        go_wp2_with fail
        (with_reducible refine (HSp.out _).mono ?_); rintro e wk5 ⟨rfl, hb⟩
        have SK5 := GS2.later (w0 := w0) (B := w0.heap.size) ⟨g1, g2, g3, g4, g5, g6, F⟩ hb
        clear hb g1 g2 g3 g4 g5 g6 F
        obtain ⟨g1, g2, g3, g4, g5, g6, F⟩ := SK5
        go_wp2_with fail
        exact HK.out _ _ _ _ _ _ _ _ _ _ _ _ _ _ _ _ _ _ _ _ _ _ _ _ _ _ _ _ _ _ _ _ _ _ _ _ _ _ _ _ _ _ _ _ _ _ _ _ _ ⟨by have := HLT.out; omega, fun h => absurd h (by omega), fun _ => HCU.out, fun _ => HSZ.out, ⟨g1, g2, g3, g4, g5, g6, F⟩⟩ (by omega)
      · have e5 : decide ((k : Int) < Wn) = false := decide_eq_false hlw
        have HSZ := Lib.hid (show sz = R * wb from hsz (by omega))
        have HCU := Lib.hid hcu
        clear hcu P hz hup2 hwa hlw hlt hla0 hla1 hsz HX hup hcz
        go_wp2_with fail
        (with_reducible refine (HC.out _).mono ?_); rintro e wk6 ⟨rfl, hb⟩
        have SK6 := GS2.later (w0 := w0) (B := w0.heap.size) ⟨g1, g2, g3, g4, g5, g6, F⟩ hb
        clear hb g1 g2 g3 g4 g5 g6 F
        obtain ⟨g1, g2, g3, g4, g5, g6, F⟩ := SK6
        go_wp2_with fail
        exact HK.out _ _ _ _ _ _ _ _ _ _ _ _ _ _ _ _ _ _ _ _ _ _ _ _ _ _ _ _ _ _ _ _ _ _ _ _ _ _ _ _ _ _ _ _ _ _ _ _ _ ⟨by have := HLT.out; omega, fun h => absurd h (by omega), fun _ => HCU.out, fun _ => HSZ.out, ⟨g1, g2, g3, g4, g5, g6, F⟩⟩ (by omega)
  · have i1 : decide ((k : Int) ≤ Wn) = false := decide_eq_false hlt
    have Hin := Lib.hid (show (k : Int) = Wn + 1 by omega)
    have HI := Lib.hid (show ((k : Nat) : Int) ≤ Wn + 1 ∧ (k = 0 → la = 0) ∧ (0 < k → la = pnX R wa wb (((k : Nat) : Int) - 1)) ∧ (0 < k → sz = R * wb) ∧ GS2 w0 w0.heap.size gb (gb + 1) l d c l' d' c' w from ⟨hk, hla0, hla1, hsz, ⟨g1, g2, g3, g4, g5, g6, F⟩⟩)
    clear HK P hla0 hla1 hsz hK
    go_wp2_with fail
    exact HX.out _ _ _ _ _ _ _ _ _ _ _ _ _ _ _ _ _ _ _ _ _ _ _ _ _ _ _ _ _ _ _ _ _ _ _ _ _ _ _ _ _ _ _ _ _ _ Hin.out
set_option maxRecDepth 100000 in
set_option maxHeartbeats 3200000 in
theorem pri {w0 : World} {gb : Nat} {l d c l' d' c' R Wn wa wb : Int}  {w : World} (u0 u1 u2 u3 u11 u12 u13 u14 u15 u16 u17 u18 u19 u20 u21 u22 u23 u24 u25 u26 u27 u28 u29 u30 u31 u32 u33 u34 u35 u36 u37 u38 u39 u40 u41 u42 u43 u44 u45 u46 u47 u48 u49 u50 u51 u52 u53 u54 u55 u56 u57 u58 u59 u60 u61 u62 u63 u64 u65 u66 u67 u68 u69 u70 u71 u72 u73 u74 u75 u76 u77 u78 u79 u80 u81 u82 u83 u84 u85 u86 u87 u88 u89 u90 : Value) (Q : Exit → Act → World → Prop) (P : Pn l d c l' d' c' R Wn wa wb) (hI : (((0 : Nat) : Int) ≤ Wn + 1 ∧ (0 = 0 → (0 : Int) = 0) ∧ (0 < 0 → (0 : Int) = pnX R wa wb (((0 : Nat) : Int) - 1)) ∧ (0 < 0 → (0 : Int) = R * wb) ∧ GS2 w0 w0.heap.size gb (gb + 1) l d c l' d' c' w))
    (hX : ∀ (v11 v12 v13 v23 v24 v25 v26 v27 v28 v29 v30 v31 v32 v33 v34 v35 v36 v37 v38 v39 v40 v41 v42 v43 v44 v45 v46 v47 v48 v49 v50 v51 v52 v53 v54 v55 v56 v57 v58 v59 v60 v61 v62 v63 v64 v65 : Value) (k : Nat) (la : Int) (sz : Int) (V : World), (((k : Nat) : Int) ≤ Wn + 1 ∧ (k = 0 → la = 0) ∧ (0 < k → la = pnX R wa wb (((k : Nat) : Int) - 1)) ∧ (0 < k → sz = R * wb) ∧ GS2 w0 w0.heap.size gb (gb + 1) l d c l' d' c' V) → ((k : Int) = Wn + 1) → Q (.exit 0) ⟨List.toArray (u0 :: u1 :: u2 :: u3 :: (.bool false) :: (.pointer (some ⟨gb, 0, none⟩)) :: (.pointer (some ⟨gb + 1, 0, none⟩)) :: (.int .i64 Wn) :: (.int .i64 la) :: (.int .i64 sz) :: (.int .i64 ((k : Nat) : Int)) :: v11 :: v12 :: v13 :: u14 :: u15 :: u16 :: u17 :: u18 :: u19 :: u20 :: u21 :: u22 :: v23 :: v24 :: v25 :: v26 :: v27 :: v28 :: v29 :: v30 :: v31 :: v32 :: v33 :: v34 :: v35 :: v36 :: v37 :: v38 :: v39 :: v40 :: v41 :: v42 :: v43 :: v44 :: v45 :: v46 :: v47 :: v48 :: v49 :: v50 :: v51 :: v52 :: v53 :: v54 :: v55 :: v56 :: v57 :: v58 :: v59 :: v60 :: v61 :: v62 :: v63 :: v64 :: v65 :: u66 :: u67 :: u68 :: u69 :: u70 :: u71 :: u72 :: u73 :: u74 :: u75 :: u76 :: u77 :: u78 :: u79 :: u80 :: u81 :: u82 :: u83 :: u84 :: u85 :: u86 :: u87 :: u88 :: u89 :: u90 :: []), []⟩ V) :
    Code.wp Try.prog (.loop (sub [1, 1, 1, 1, 0, 1, 0, 0] codePRi)) Q ⟨List.toArray (u0 :: u1 :: u2 :: u3 :: (.bool false) :: (.pointer (some ⟨gb, 0, none⟩)) :: (.pointer (some ⟨gb + 1, 0, none⟩)) :: (.int .i64 Wn) :: (.int .i64 (0 : Int)) :: (.int .i64 (0 : Int)) :: (.int .i64 ((0 : Nat) : Int)) :: u11 :: u12 :: u13 :: u14 :: u15 :: u16 :: u17 :: u18 :: u19 :: u20 :: u21 :: u22 :: u23 :: u24 :: u25 :: u26 :: u27 :: u28 :: u29 :: u30 :: u31 :: u32 :: u33 :: u34 :: u35 :: u36 :: u37 :: u38 :: u39 :: u40 :: u41 :: u42 :: u43 :: u44 :: u45 :: u46 :: u47 :: u48 :: u49 :: u50 :: u51 :: u52 :: u53 :: u54 :: u55 :: u56 :: u57 :: u58 :: u59 :: u60 :: u61 :: u62 :: u63 :: u64 :: u65 :: u66 :: u67 :: u68 :: u69 :: u70 :: u71 :: u72 :: u73 :: u74 :: u75 :: u76 :: u77 :: u78 :: u79 :: u80 :: u81 :: u82 :: u83 :: u84 :: u85 :: u86 :: u87 :: u88 :: u89 :: u90 :: []), []⟩ w := by
  refine wp_loop_ghost (fun gk a V => ∀ C : Prop, (∀ (u11 u12 u13 u23 u24 u25 u26 u27 u28 u29 u30 u31 u32 u33 u34 u35 u36 u37 u38 u39 u40 u41 u42 u43 u44 u45 u46 u47 u48 u49 u50 u51 u52 u53 u54 u55 u56 u57 u58 u59 u60 u61 u62 u63 u64 u65 : Value) (k : Nat) (la : Int) (sz : Int), gk = 18 - k → (((k : Nat) : Int) ≤ Wn + 1 ∧ (k = 0 → la = 0) ∧ (0 < k → la = pnX R wa wb (((k : Nat) : Int) - 1)) ∧ (0 < k → sz = R * wb) ∧ GS2 w0 w0.heap.size gb (gb + 1) l d c l' d' c' V) → a = ⟨List.toArray (u0 :: u1 :: u2 :: u3 :: (.bool false) :: (.pointer (some ⟨gb, 0, none⟩)) :: (.pointer (some ⟨gb + 1, 0, none⟩)) :: (.int .i64 Wn) :: (.int .i64 la) :: (.int .i64 sz) :: (.int .i64 ((k : Nat) : Int)) :: u11 :: u12 :: u13 :: u14 :: u15 :: u16 :: u17 :: u18 :: u19 :: u20 :: u21 :: u22 :: u23 :: u24 :: u25 :: u26 :: u27 :: u28 :: u29 :: u30 :: u31 :: u32 :: u33 :: u34 :: u35 :: u36 :: u37 :: u38 :: u39 :: u40 :: u41 :: u42 :: u43 :: u44 :: u45 :: u46 :: u47 :: u48 :: u49 :: u50 :: u51 :: u52 :: u53 :: u54 :: u55 :: u56 :: u57 :: u58 :: u59 :: u60 :: u61 :: u62 :: u63 :: u64 :: u65 :: u66 :: u67 :: u68 :: u69 :: u70 :: u71 :: u72 :: u73 :: u74 :: u75 :: u76 :: u77 :: u78 :: u79 :: u80 :: u81 :: u82 :: u83 :: u84 :: u85 :: u86 :: u87 :: u88 :: u89 :: u90 :: []), []⟩ → C) → C) (18 - 0) ?_ ?_
  · intro C hC
    exact hC _ _ _ _ _ _ _ _ _ _ _ _ _ _ _ _ _ _ _ _ _ _ _ _ _ _ _ _ _ _ _ _ _ _ _ _ _ _ _ _ _ _ _ _ _ _ (0) ((0 : Int)) ((0 : Int)) rfl hI rfl
  · intro gk a V hI'
    refine hI' _ ?_
    intro u11 u12 u13 u23 u24 u25 u26 u27 u28 u29 u30 u31 u32 u33 u34 u35 u36 u37 u38 u39 u40 u41 u42 u43 u44 u45 u46 u47 u48 u49 u50 u51 u52 u53 u54 u55 u56 u57 u58 u59 u60 u61 u62 u63 u64 u65 k la sz hk hinv ha
    subst ha
    subst hk
    refine prib _ _ _ _ _ _ _ _ _ _ _ _ _ _ _ _ _ _ _ _ _ _ _ _ _ _ _ _ _ _ _ _ _ _ _ _ _ _ _ _ _ _ _ _ _ _ _ _ _ _ _ _ _ _ _ _ _ _ _ _ _ _ _ _ _ _ _ _ _ _ _ _ _ _ _ _ _ _ _ _ _ _ _ _ _ _ P hinv (fun v11 v12 v13 v23 v24 v25 v26 v27 v28 v29 v30 v31 v32 v33 v34 v35 v36 v37 v38 v39 v40 v41 v42 v43 v44 v45 v46 v47 v48 v49 v50 v51 v52 v53 v54 v55 v56 v57 v58 v59 v60 v61 v62 v63 v64 v65 la2 sz2 V2 h2 hm => ?_) (fun v11 v12 v13 v23 v24 v25 v26 v27 v28 v29 v30 v31 v32 v33 v34 v35 v36 v37 v38 v39 v40 v41 v42 v43 v44 v45 v46 v47 v48 v49 v50 v51 v52 v53 v54 v55 v56 v57 v58 v59 v60 v61 v62 v63 v64 v65 hx => hX v11 v12 v13 v23 v24 v25 v26 v27 v28 v29 v30 v31 v32 v33 v34 v35 v36 v37 v38 v39 v40 v41 v42 v43 v44 v45 v46 v47 v48 v49 v50 v51 v52 v53 v54 v55 v56 v57 v58 v59 v60 v61 v62 v63 v64 v65 k la sz V hinv hx)
    refine ⟨_, hm, fun C hC => ?_⟩
    exact hC v11 v12 v13 v23 v24 v25 v26 v27 v28 v29 v30 v31 v32 v33 v34 v35 v36 v37 v38 v39 v40 v41 v42 v43 v44 v45 v46 v47 v48 v49 v50 v51 v52 v53 v54 v55 v56 v57 v58 v59 v60 v61 v62 v63 v64 v65 ((k + 1)) (la2) (sz2) rfl h2 rfl
end Go.Proofs.Ytabeadbnoifedaa
