/- PlaceRows: its loops. -/
import Derived.Test.YtclmgldlpjhepaaPlaceRowsMath
import Derived.Test.YtclmgldlpjhepaaSub
import Derived.Carry
set_option linter.unusedVariables false
set_option linter.unusedSimpArgs false
namespace Go.Proofs.Ytclmgldlpjhepaa
open Go.RowKit

noncomputable def codePR : Code := Try.f7.body.getD .skip
set_option maxRecDepth 100000 in
set_option maxHeartbeats 3200000 in
theorem prBb {w0 : World} {n l d c : Int} {gb wn : Nat} {r mb ab ao cp : Nat} {ns : List Int} {k : Nat} {w : World} (u1 u7 u8 u11 u12 u13 u14 u15 u16 u17 u18 u19 u20 u21 u22 u23 u24 u25 u26 u27 u28 u29 u30 u31 u32 u33 u34 u35 u36 u37 u38 u39 u40 u41 u42 u43 u44 u45 u46 u47 u48 u49 u50 u51 u52 u53 u54 u55 u56 u57 u58 u59 u60 u61 u62 u63 u64 u65 u66 u67 u68 u69 u70 u71 u72 u73 u74 u75 u76 u77 u78 u79 u80 u81 u82 u83 u84 u85 u86 u87 u88 u89 u90 u91 u92 u93 u94 u95 u96 u97 u98 u99 u100 u101 u102 u103 u104 u105 u106 u107 u108 u109 u110 u111 u112 u113 u114 u115 u116 u117 u118 u119 u120 u121 u122 u123 u124 u125 u126 u127 u128 u129 u130 : Value) (K : Act → World → Prop) (Q0 : Exit → Act → World → Prop) (hg : gOk l d c = true) (hr : r < 16) (hwn : gWid l d c = (wn : Int)) (hln : ns.length = wn) (hget : ∀ j : Nat, j < wn → ns.getD j 0 = plN l d c (r : Int) (j : Int)) (hI : (k ≤ wn ∧ VS w0 w gb mb l d c (r : Int) ab ao ns k))
    (hK : ∀ (v11 v12 v13 v14 v15 v16 v50 v51 v52 v53 v54 v55 v56 v57 v58 v59 v60 v61 v62 v63 v64 v65 v66 v67 v68 v69 v70 v71 v72 v73 v74 v75 v76 v77 v78 v79 v80 v81 v82 v83 v84 v85 v86 v87 v88 v89 v90 v91 v92 v93 v94 v95 v96 v97 v98 v99 v100 v101 v102 v103 v104 v105 v106 v107 v108 v109 v110 v111 v112 v113 v114 v115 v116 v117 : Value)  (V : World), ((k + 1) ≤ wn ∧ VS w0 V gb mb l d c (r : Int) ab ao ns (k + 1)) → wn - (k + 1) < wn - k → K ⟨List.toArray ((.int .i64 n) :: u1 :: (.bool false) :: (.pointer (some ⟨gb, 0, none⟩)) :: (.int .i64 (wn : Int)) :: (.int .i64 (r : Int)) :: (.map (some mb)) :: u7 :: u8 :: (.slice (some ⟨ab, ao, none⟩) wn cp) :: (.int .i64 (((k + 1) : Nat) : Int)) :: v11 :: v12 :: v13 :: v14 :: v15 :: v16 :: u17 :: u18 :: u19 :: u20 :: u21 :: u22 :: u23 :: u24 :: u25 :: u26 :: u27 :: u28 :: u29 :: u30 :: u31 :: u32 :: u33 :: u34 :: u35 :: u36 :: u37 :: u38 :: u39 :: u40 :: u41 :: u42 :: u43 :: u44 :: u45 :: u46 :: u47 :: u48 :: u49 :: v50 :: v51 :: v52 :: v53 :: v54 :: v55 :: v56 :: v57 :: v58 :: v59 :: v60 :: v61 :: v62 :: v63 :: v64 :: v65 :: v66 :: v67 :: v68 :: v69 :: v70 :: v71 :: v72 :: v73 :: v74 :: v75 :: v76 :: v77 :: v78 :: v79 :: v80 :: v81 :: v82 :: v83 :: v84 :: v85 :: v86 :: v87 :: v88 :: v89 :: v90 :: v91 :: v92 :: v93 :: v94 :: v95 :: v96 :: v97 :: v98 :: v99 :: v100 :: v101 :: v102 :: v103 :: v104 :: v105 :: v106 :: v107 :: v108 :: v109 :: v110 :: v111 :: v112 :: v113 :: v114 :: v115 :: v116 :: v117 :: u118 :: u119 :: u120 :: u121 :: u122 :: u123 :: u124 :: u125 :: u126 :: u127 :: u128 :: u129 :: u130 :: []), []⟩ V)
    (hX : ∀ (v11 v12 v13 v14 v15 v16 v50 v51 v52 v53 v54 v55 v56 v57 v58 v59 v60 v61 v62 v63 v64 v65 v66 v67 v68 v69 v70 v71 v72 v73 v74 v75 v76 v77 v78 v79 v80 v81 v82 v83 v84 v85 v86 v87 v88 v89 v90 v91 v92 v93 v94 v95 v96 v97 v98 v99 v100 v101 v102 v103 v104 v105 v106 v107 v108 v109 v110 v111 v112 v113 v114 v115 v116 v117 : Value), (k = wn) → Q0 (.exit 2) ⟨List.toArray ((.int .i64 n) :: u1 :: (.bool false) :: (.pointer (some ⟨gb, 0, none⟩)) :: (.int .i64 (wn : Int)) :: (.int .i64 (r : Int)) :: (.map (some mb)) :: u7 :: u8 :: (.slice (some ⟨ab, ao, none⟩) wn cp) :: (.int .i64 ((k : Nat) : Int)) :: v11 :: v12 :: v13 :: v14 :: v15 :: v16 :: u17 :: u18 :: u19 :: u20 :: u21 :: u22 :: u23 :: u24 :: u25 :: u26 :: u27 :: u28 :: u29 :: u30 :: u31 :: u32 :: u33 :: u34 :: u35 :: u36 :: u37 :: u38 :: u39 :: u40 :: u41 :: u42 :: u43 :: u44 :: u45 :: u46 :: u47 :: u48 :: u49 :: v50 :: v51 :: v52 :: v53 :: v54 :: v55 :: v56 :: v57 :: v58 :: v59 :: v60 :: v61 :: v62 :: v63 :: v64 :: v65 :: v66 :: v67 :: v68 :: v69 :: v70 :: v71 :: v72 :: v73 :: v74 :: v75 :: v76 :: v77 :: v78 :: v79 :: v80 :: v81 :: v82 :: v83 :: v84 :: v85 :: v86 :: v87 :: v88 :: v89 :: v90 :: v91 :: v92 :: v93 :: v94 :: v95 :: v96 :: v97 :: v98 :: v99 :: v100 :: v101 :: v102 :: v103 :: v104 :: v105 :: v106 :: v107 :: v108 :: v109 :: v110 :: v111 :: v112 :: v113 :: v114 :: v115 :: v116 :: v117 :: u118 :: u119 :: u120 :: u121 :: u122 :: u123 :: u124 :: u125 :: u126 :: u127 :: u128 :: u129 :: u130 :: []), []⟩ w) :
    Code.wp Try.prog (sub [1, 1, 1, 0, 1, 0, 0, 1, 0, 0, 1, 1, 1, 1, 1, 1, 0, 1, 0, 0] codePR) (Exit.then K Q0) ⟨List.toArray ((.int .i64 n) :: u1 :: (.bool false) :: (.pointer (some ⟨gb, 0, none⟩)) :: (.int .i64 (wn : Int)) :: (.int .i64 (r : Int)) :: (.map (some mb)) :: u7 :: u8 :: (.slice (some ⟨ab, ao, none⟩) wn cp) :: (.int .i64 ((k : Nat) : Int)) :: u11 :: u12 :: u13 :: u14 :: u15 :: u16 :: u17 :: u18 :: u19 :: u20 :: u21 :: u22 :: u23 :: u24 :: u25 :: u26 :: u27 :: u28 :: u29 :: u30 :: u31 :: u32 :: u33 :: u34 :: u35 :: u36 :: u37 :: u38 :: u39 :: u40 :: u41 :: u42 :: u43 :: u44 :: u45 :: u46 :: u47 :: u48 :: u49 :: u50 :: u51 :: u52 :: u53 :: u54 :: u55 :: u56 :: u57 :: u58 :: u59 :: u60 :: u61 :: u62 :: u63 :: u64 :: u65 :: u66 :: u67 :: u68 :: u69 :: u70 :: u71 :: u72 :: u73 :: u74 :: u75 :: u76 :: u77 :: u78 :: u79 :: u80 :: u81 :: u82 :: u83 :: u84 :: u85 :: u86 :: u87 :: u88 :: u89 :: u90 :: u91 :: u92 :: u93 :: u94 :: u95 :: u96 :: u97 :: u98 :: u99 :: u100 :: u101 :: u102 :: u103 :: u104 :: u105 :: u106 :: u107 :: u108 :: u109 :: u110 :: u111 :: u112 :: u113 :: u114 :: u115 :: u116 :: u117 :: u118 :: u119 :: u120 :: u121 :: u122 :: u123 :: u124 :: u125 :: u126 :: u127 :: u128 :: u129 :: u130 :: []), []⟩ w := by
  have HK := Lib.hid hK
  have HX := Lib.hid hX
  clear hK hX
  conv => arg 2; whnf
  obtain ⟨hi, hT⟩ := hI
  have HT := Lib.hid hT
  have hb := gOk_bd hg
  have hw7 := gWid_bd l d c
  rw [hwn] at hw7
  clear hT
  by_cases hlt : k < wn
  · have i0 : (0 : Int) ≤ (k : Int) := by omega
    have i1 : (k : Int) < (wn : Int) := by omega
    have hk := plOk_mk hg (show (0 : Int) ≤ (r : Int) by omega) (by omega)
    have hdk : plDok l d c (r : Int) (k : Int) = true := by unfold plDok; rw [hk, hwn, decide_eq_true ⟨i0, i1⟩]; rfl
    obtain ⟨d0, d1, _, _⟩ := data_ne hdk
    obtain ⟨bo, bk, bn⟩ := back_data hdk
    obtain ⟨oo, od, orr⟩ := of_num hdk
    obtain ⟨n0, n1, _, _⟩ := num_row hdk
    have hcb := gCap_bd l d c
    have HD := Lib.hid (fun W => disk_any l d c (r : Int) (k : Int) W (by omega) (by omega) (by omega) (by omega) (by omega))
    have HO := Lib.hid (fun W => of_any l d c (plN l d c (r : Int) (k : Int)) W (by omega) (by omega) (by omega) (by omega))
    rw [oo, od, orr] at HO
    have HB := Lib.hid (fun W => back_any l d c (plD l d c (r : Int) (k : Int)) (r : Int) W (by omega) (by omega) (by omega) (by omega) (by omega))
    rw [bo, bk, bn] at HB
    have HL := Lib.hid (fun W (h : VS w0 W gb mb l d c (r : Int) ab ao ns k) => h.look hk (by rw [hwn]; exact i1) (by omega))
    have HS := Lib.hid (fun W (h : VS w0 W gb mb l d c (r : Int) ab ao ns k) => h.step hk (by rw [hwn]; exact i1) (by omega))
    have hz := hget k hlt
    have hk2 : k < ns.length := by omega
    have HC := Lib.hid (fun W s (h : VS w0 W gb mb l d c (r : Int) ab ao ns s) => (show W.cell? ⟨ab, ao + k, none⟩ = some (.int .i64 (plN l d c (r : Int) (k : Int))) by rw [h.rd k hk2, hz]))
    generalize plD l d c (r : Int) (k : Int) = x at HD HO HB HL HS d0 d1
    generalize plN l d c (r : Int) (k : Int) = z at HO HB HC
    have e1 : decide (x < 0) = false := decide_eq_false (by omega)
    have e2 : decide (d ≤ x) = false := decide_eq_false (by omega)
    clear HX hk hdk bo bk bn oo od orr n0 n1 hz hwn hg hget hln hk2
    obtain ⟨g1, g2, g3, _⟩ := HT.out.gs
    go_wp2_with fail
    (with_reducible refine (HD.out _).mono ?_); rintro e w2 ⟨rfl, hbb⟩
    have HT2 := Lib.hid (HT.out.below hbb)
    obtain ⟨g4, g5, g6, _⟩ := HT2.out.gs
    have hlook := HL.out _ HT2.out
    obtain ⟨W3, hrun, hT3⟩ := HS.out _ HT2.out
    have HT3 := Lib.hid hT3
    have hc3 := HC.out _ _ hT3
    obtain ⟨g7, g8, g9, F3⟩ := HT3.out.gs
    clear hbb hT3
    go_wp2_with fail
    have S3 : GC w0 w0.heap.size gb l d c ⟨ab, ao + k, none⟩ z W3 := ⟨g7, g8, g9, hc3, F3⟩
    clear g7 g8 g9 hc3 F3 g1 g2 g3 g4 g5 g6
    go_region_held3 (GC w0 w0.heap.size gb l d c ⟨ab, ao + k, none⟩ z)
      (first | assumption | exact GC.drew ‹_›)
      ((go_at_call 11; (with_reducible refine (HO.out _).mono ?_); rintro e w4 ⟨rfl, hb4⟩; have S4 := (GC.drew S3).later hb4))
    have HT4 := Lib.hid ((VS.drew HT3.out).below hb4)
    obtain ⟨g1, g2, g3, _, _⟩ := S4
    clear S3 hb4
    go_wp2_with fail
    (with_reducible refine (HB.out _).mono ?_); rintro e w5 ⟨rfl, hbb⟩
    have HT5 := Lib.hid (HT4.out.below hbb)
    have hc5 := HC.out _ _ HT5.out
    clear hbb
    go_wp2_with fail
    exact HK.out _ _ _ _ _ _ _ _ _ _ _ _ _ _ _ _ _ _ _ _ _ _ _ _ _ _ _ _ _ _ _ _ _ _ _ _ _ _ _ _ _ _ _ _ _ _ _ _ _ _ _ _ _ _ _ _ _ _ _ _ _ _ _ _ _ _ _ _ _ _ _ _ _ _ _ ⟨by omega, HT5.out⟩ (by omega)
  · have i1 : ¬ (k : Int) < (wn : Int) := by omega
    have Hin := Lib.hid (show k = wn by omega)
    clear HK hln
    go_wp2_with fail
    exact HX.out _ _ _ _ _ _ _ _ _ _ _ _ _ _ _ _ _ _ _ _ _ _ _ _ _ _ _ _ _ _ _ _ _ _ _ _ _ _ _ _ _ _ _ _ _ _ _ _ _ _ _ _ _ _ _ _ _ _ _ _ _ _ _ _ _ _ _ _ _ _ _ _ _ _ Hin.out
set_option maxRecDepth 100000 in
set_option maxHeartbeats 3200000 in
theorem prB {w0 : World} {n l d c : Int} {gb wn : Nat} {r mb ab ao cp : Nat} {ns : List Int}  {w : World} (u1 u7 u8 u11 u12 u13 u14 u15 u16 u17 u18 u19 u20 u21 u22 u23 u24 u25 u26 u27 u28 u29 u30 u31 u32 u33 u34 u35 u36 u37 u38 u39 u40 u41 u42 u43 u44 u45 u46 u47 u48 u49 u50 u51 u52 u53 u54 u55 u56 u57 u58 u59 u60 u61 u62 u63 u64 u65 u66 u67 u68 u69 u70 u71 u72 u73 u74 u75 u76 u77 u78 u79 u80 u81 u82 u83 u84 u85 u86 u87 u88 u89 u90 u91 u92 u93 u94 u95 u96 u97 u98 u99 u100 u101 u102 u103 u104 u105 u106 u107 u108 u109 u110 u111 u112 u113 u114 u115 u116 u117 u118 u119 u120 u121 u122 u123 u124 u125 u126 u127 u128 u129 u130 : Value) (Q : Exit → Act → World → Prop) (hg : gOk l d c = true) (hr : r < 16) (hwn : gWid l d c = (wn : Int)) (hln : ns.length = wn) (hget : ∀ j : Nat, j < wn → ns.getD j 0 = plN l d c (r : Int) (j : Int)) (hI : (0 ≤ wn ∧ VS w0 w gb mb l d c (r : Int) ab ao ns 0))
    (hX : ∀ (v11 v12 v13 v14 v15 v16 v50 v51 v52 v53 v54 v55 v56 v57 v58 v59 v60 v61 v62 v63 v64 v65 v66 v67 v68 v69 v70 v71 v72 v73 v74 v75 v76 v77 v78 v79 v80 v81 v82 v83 v84 v85 v86 v87 v88 v89 v90 v91 v92 v93 v94 v95 v96 v97 v98 v99 v100 v101 v102 v103 v104 v105 v106 v107 v108 v109 v110 v111 v112 v113 v114 v115 v116 v117 : Value) (k : Nat) (V : World), (k ≤ wn ∧ VS w0 V gb mb l d c (r : Int) ab ao ns k) → (k = wn) → Q (.exit 2) ⟨List.toArray ((.int .i64 n) :: u1 :: (.bool false) :: (.pointer (some ⟨gb, 0, none⟩)) :: (.int .i64 (wn : Int)) :: (.int .i64 (r : Int)) :: (.map (some mb)) :: u7 :: u8 :: (.slice (some ⟨ab, ao, none⟩) wn cp) :: (.int .i64 ((k : Nat) : Int)) :: v11 :: v12 :: v13 :: v14 :: v15 :: v16 :: u17 :: u18 :: u19 :: u20 :: u21 :: u22 :: u23 :: u24 :: u25 :: u26 :: u27 :: u28 :: u29 :: u30 :: u31 :: u32 :: u33 :: u34 :: u35 :: u36 :: u37 :: u38 :: u39 :: u40 :: u41 :: u42 :: u43 :: u44 :: u45 :: u46 :: u47 :: u48 :: u49 :: v50 :: v51 :: v52 :: v53 :: v54 :: v55 :: v56 :: v57 :: v58 :: v59 :: v60 :: v61 :: v62 :: v63 :: v64 :: v65 :: v66 :: v67 :: v68 :: v69 :: v70 :: v71 :: v72 :: v73 :: v74 :: v75 :: v76 :: v77 :: v78 :: v79 :: v80 :: v81 :: v82 :: v83 :: v84 :: v85 :: v86 :: v87 :: v88 :: v89 :: v90 :: v91 :: v92 :: v93 :: v94 :: v95 :: v96 :: v97 :: v98 :: v99 :: v100 :: v101 :: v102 :: v103 :: v104 :: v105 :: v106 :: v107 :: v108 :: v109 :: v110 :: v111 :: v112 :: v113 :: v114 :: v115 :: v116 :: v117 :: u118 :: u119 :: u120 :: u121 :: u122 :: u123 :: u124 :: u125 :: u126 :: u127 :: u128 :: u129 :: u130 :: []), []⟩ V) :
    Code.wp Try.prog (.loop (sub [1, 1, 1, 0, 1, 0, 0, 1, 0, 0, 1, 1, 1, 1, 1, 1, 0, 1, 0, 0] codePR)) Q ⟨List.toArray ((.int .i64 n) :: u1 :: (.bool false) :: (.pointer (some ⟨gb, 0, none⟩)) :: (.int .i64 (wn : Int)) :: (.int .i64 (r : Int)) :: (.map (some mb)) :: u7 :: u8 :: (.slice (some ⟨ab, ao, none⟩) wn cp) :: (.int .i64 ((0 : Nat) : Int)) :: u11 :: u12 :: u13 :: u14 :: u15 :: u16 :: u17 :: u18 :: u19 :: u20 :: u21 :: u22 :: u23 :: u24 :: u25 :: u26 :: u27 :: u28 :: u29 :: u30 :: u31 :: u32 :: u33 :: u34 :: u35 :: u36 :: u37 :: u38 :: u39 :: u40 :: u41 :: u42 :: u43 :: u44 :: u45 :: u46 :: u47 :: u48 :: u49 :: u50 :: u51 :: u52 :: u53 :: u54 :: u55 :: u56 :: u57 :: u58 :: u59 :: u60 :: u61 :: u62 :: u63 :: u64 :: u65 :: u66 :: u67 :: u68 :: u69 :: u70 :: u71 :: u72 :: u73 :: u74 :: u75 :: u76 :: u77 :: u78 :: u79 :: u80 :: u81 :: u82 :: u83 :: u84 :: u85 :: u86 :: u87 :: u88 :: u89 :: u90 :: u91 :: u92 :: u93 :: u94 :: u95 :: u96 :: u97 :: u98 :: u99 :: u100 :: u101 :: u102 :: u103 :: u104 :: u105 :: u106 :: u107 :: u108 :: u109 :: u110 :: u111 :: u112 :: u113 :: u114 :: u115 :: u116 :: u117 :: u118 :: u119 :: u120 :: u121 :: u122 :: u123 :: u124 :: u125 :: u126 :: u127 :: u128 :: u129 :: u130 :: []), []⟩ w := by
  refine wp_loop_ghost (fun gk a V => ∀ C : Prop, (∀ (u11 u12 u13 u14 u15 u16 u50 u51 u52 u53 u54 u55 u56 u57 u58 u59 u60 u61 u62 u63 u64 u65 u66 u67 u68 u69 u70 u71 u72 u73 u74 u75 u76 u77 u78 u79 u80 u81 u82 u83 u84 u85 u86 u87 u88 u89 u90 u91 u92 u93 u94 u95 u96 u97 u98 u99 u100 u101 u102 u103 u104 u105 u106 u107 u108 u109 u110 u111 u112 u113 u114 u115 u116 u117 : Value) (k : Nat), gk = wn - k → (k ≤ wn ∧ VS w0 V gb mb l d c (r : Int) ab ao ns k) → a = ⟨List.toArray ((.int .i64 n) :: u1 :: (.bool false) :: (.pointer (some ⟨gb, 0, none⟩)) :: (.int .i64 (wn : Int)) :: (.int .i64 (r : Int)) :: (.map (some mb)) :: u7 :: u8 :: (.slice (some ⟨ab, ao, none⟩) wn cp) :: (.int .i64 ((k : Nat) : Int)) :: u11 :: u12 :: u13 :: u14 :: u15 :: u16 :: u17 :: u18 :: u19 :: u20 :: u21 :: u22 :: u23 :: u24 :: u25 :: u26 :: u27 :: u28 :: u29 :: u30 :: u31 :: u32 :: u33 :: u34 :: u35 :: u36 :: u37 :: u38 :: u39 :: u40 :: u41 :: u42 :: u43 :: u44 :: u45 :: u46 :: u47 :: u48 :: u49 :: u50 :: u51 :: u52 :: u53 :: u54 :: u55 :: u56 :: u57 :: u58 :: u59 :: u60 :: u61 :: u62 :: u63 :: u64 :: u65 :: u66 :: u67 :: u68 :: u69 :: u70 :: u71 :: u72 :: u73 :: u74 :: u75 :: u76 :: u77 :: u78 :: u79 :: u80 :: u81 :: u82 :: u83 :: u84 :: u85 :: u86 :: u87 :: u88 :: u89 :: u90 :: u91 :: u92 :: u93 :: u94 :: u95 :: u96 :: u97 :: u98 :: u99 :: u100 :: u101 :: u102 :: u103 :: u104 :: u105 :: u106 :: u107 :: u108 :: u109 :: u110 :: u111 :: u112 :: u113 :: u114 :: u115 :: u116 :: u117 :: u118 :: u119 :: u120 :: u121 :: u122 :: u123 :: u124 :: u125 :: u126 :: u127 :: u128 :: u129 :: u130 :: []), []⟩ → C) → C) (wn - 0) ?_ ?_
  · intro C hC
    exact hC _ _ _ _ _ _ _ _ _ _ _ _ _ _ _ _ _ _ _ _ _ _ _ _ _ _ _ _ _ _ _ _ _ _ _ _ _ _ _ _ _ _ _ _ _ _ _ _ _ _ _ _ _ _ _ _ _ _ _ _ _ _ _ _ _ _ _ _ _ _ _ _ _ _ (0) rfl hI rfl
  · intro gk a V hI'
    refine hI' _ ?_
    intro u11 u12 u13 u14 u15 u16 u50 u51 u52 u53 u54 u55 u56 u57 u58 u59 u60 u61 u62 u63 u64 u65 u66 u67 u68 u69 u70 u71 u72 u73 u74 u75 u76 u77 u78 u79 u80 u81 u82 u83 u84 u85 u86 u87 u88 u89 u90 u91 u92 u93 u94 u95 u96 u97 u98 u99 u100 u101 u102 u103 u104 u105 u106 u107 u108 u109 u110 u111 u112 u113 u114 u115 u116 u117 k hk hinv ha
    subst ha
    subst hk
    refine prBb _ _ _ _ _ _ _ _ _ _ _ _ _ _ _ _ _ _ _ _ _ _ _ _ _ _ _ _ _ _ _ _ _ _ _ _ _ _ _ _ _ _ _ _ _ _ _ _ _ _ _ _ _ _ _ _ _ _ _ _ _ _ _ _ _ _ _ _ _ _ _ _ _ _ _ _ _ _ _ _ _ _ _ _ _ _ _ _ _ _ _ _ _ _ _ _ _ _ _ _ _ _ _ _ _ _ _ _ _ _ _ _ _ _ _ _ _ _ _ _ _ _ _ _ _ hg hr hwn hln hget hinv (fun v11 v12 v13 v14 v15 v16 v50 v51 v52 v53 v54 v55 v56 v57 v58 v59 v60 v61 v62 v63 v64 v65 v66 v67 v68 v69 v70 v71 v72 v73 v74 v75 v76 v77 v78 v79 v80 v81 v82 v83 v84 v85 v86 v87 v88 v89 v90 v91 v92 v93 v94 v95 v96 v97 v98 v99 v100 v101 v102 v103 v104 v105 v106 v107 v108 v109 v110 v111 v112 v113 v114 v115 v116 v117  V2 h2 hm => ?_) (fun v11 v12 v13 v14 v15 v16 v50 v51 v52 v53 v54 v55 v56 v57 v58 v59 v60 v61 v62 v63 v64 v65 v66 v67 v68 v69 v70 v71 v72 v73 v74 v75 v76 v77 v78 v79 v80 v81 v82 v83 v84 v85 v86 v87 v88 v89 v90 v91 v92 v93 v94 v95 v96 v97 v98 v99 v100 v101 v102 v103 v104 v105 v106 v107 v108 v109 v110 v111 v112 v113 v114 v115 v116 v117 hx => hX v11 v12 v13 v14 v15 v16 v50 v51 v52 v53 v54 v55 v56 v57 v58 v59 v60 v61 v62 v63 v64 v65 v66 v67 v68 v69 v70 v71 v72 v73 v74 v75 v76 v77 v78 v79 v80 v81 v82 v83 v84 v85 v86 v87 v88 v89 v90 v91 v92 v93 v94 v95 v96 v97 v98 v99 v100 v101 v102 v103 v104 v105 v106 v107 v108 v109 v110 v111 v112 v113 v114 v115 v116 v117 k V hinv hx)
    refine ⟨_, hm, fun C hC => ?_⟩
    exact hC v11 v12 v13 v14 v15 v16 v50 v51 v52 v53 v54 v55 v56 v57 v58 v59 v60 v61 v62 v63 v64 v65 v66 v67 v68 v69 v70 v71 v72 v73 v74 v75 v76 v77 v78 v79 v80 v81 v82 v83 v84 v85 v86 v87 v88 v89 v90 v91 v92 v93 v94 v95 v96 v97 v98 v99 v100 v101 v102 v103 v104 v105 v106 v107 v108 v109 v110 v111 v112 v113 v114 v115 v116 v117 ((k + 1)) rfl h2 rfl
set_option maxRecDepth 100000 in
set_option maxHeartbeats 3200000 in
theorem prAb {w0 : World} {n l d c : Int} {gb wn : Nat} {r : Nat} {w : World} (u1 u6 u7 u8 u9 u10 u11 u12 u13 u14 u15 u16 u17 u18 u19 u20 u21 u22 u23 u24 u25 u26 u27 u28 u29 u30 u31 u32 u33 u34 u35 u36 u37 u38 u39 u40 u41 u42 u43 u44 u45 u46 u47 u48 u49 u50 u51 u52 u53 u54 u55 u56 u57 u58 u59 u60 u61 u62 u63 u64 u65 u66 u67 u68 u69 u70 u71 u72 u73 u74 u75 u76 u77 u78 u79 u80 u81 u82 u83 u84 u85 u86 u87 u88 u89 u90 u91 u92 u93 u94 u95 u96 u97 u98 u99 u100 u101 u102 u103 u104 u105 u106 u107 u108 u109 u110 u111 u112 u113 u114 u115 u116 u117 u118 u119 u120 u121 u122 u123 u124 u125 u126 u127 u128 u129 u130 : Value) (K : Act → World → Prop) (Q0 : Exit → Act → World → Prop) (hg : gOk l d c = true) (hwn : gWid l d c = (wn : Int)) (hmm : ∀ V : World, (Instr.makeMap 44 none).run Try.prog V = .ok (.map (some V.heap.size)) (V.alloc (.map #[] 0))) (hI : (r ≤ 16 ∧ GS w0 w0.heap.size gb l d c w))
    (hK : ∀ (v6 v7 v8 v9 v10 v11 v12 v13 v14 v15 v16 v25 v26 v27 v28 v29 v30 v31 v32 v33 v34 v35 v36 v37 v38 v39 v40 v41 v42 v43 v44 v45 v46 v47 v48 v49 v50 v51 v52 v53 v54 v55 v56 v57 v58 v59 v60 v61 v62 v63 v64 v65 v66 v67 v68 v69 v70 v71 v72 v73 v74 v75 v76 v77 v78 v79 v80 v81 v82 v83 v84 v85 v86 v87 v88 v89 v90 v91 v92 v93 v94 v95 v96 v97 v98 v99 v100 v101 v102 v103 v104 v105 v106 v107 v108 v109 v110 v111 v112 v113 v114 v115 v116 v117 v118 v119 v120 v121 v122 v123 v124 v125 v126 v127 v128 v129 : Value)  (V : World), ((r + 1) ≤ 16 ∧ GS w0 w0.heap.size gb l d c V) → 16 - (r + 1) < 16 - r → K ⟨List.toArray ((.int .i64 n) :: u1 :: (.bool false) :: (.pointer (some ⟨gb, 0, none⟩)) :: (.int .i64 (wn : Int)) :: (.int .i64 (((r + 1) : Nat) : Int)) :: v6 :: v7 :: v8 :: v9 :: v10 :: v11 :: v12 :: v13 :: v14 :: v15 :: v16 :: u17 :: u18 :: u19 :: u20 :: u21 :: u22 :: u23 :: u24 :: v25 :: v26 :: v27 :: v28 :: v29 :: v30 :: v31 :: v32 :: v33 :: v34 :: v35 :: v36 :: v37 :: v38 :: v39 :: v40 :: v41 :: v42 :: v43 :: v44 :: v45 :: v46 :: v47 :: v48 :: v49 :: v50 :: v51 :: v52 :: v53 :: v54 :: v55 :: v56 :: v57 :: v58 :: v59 :: v60 :: v61 :: v62 :: v63 :: v64 :: v65 :: v66 :: v67 :: v68 :: v69 :: v70 :: v71 :: v72 :: v73 :: v74 :: v75 :: v76 :: v77 :: v78 :: v79 :: v80 :: v81 :: v82 :: v83 :: v84 :: v85 :: v86 :: v87 :: v88 :: v89 :: v90 :: v91 :: v92 :: v93 :: v94 :: v95 :: v96 :: v97 :: v98 :: v99 :: v100 :: v101 :: v102 :: v103 :: v104 :: v105 :: v106 :: v107 :: v108 :: v109 :: v110 :: v111 :: v112 :: v113 :: v114 :: v115 :: v116 :: v117 :: v118 :: v119 :: v120 :: v121 :: v122 :: v123 :: v124 :: v125 :: v126 :: v127 :: v128 :: v129 :: u130 :: []), []⟩ V)
    (hX : ∀ (v6 v7 v8 v9 v10 v11 v12 v13 v14 v15 v16 v25 v26 v27 v28 v29 v30 v31 v32 v33 v34 v35 v36 v37 v38 v39 v40 v41 v42 v43 v44 v45 v46 v47 v48 v49 v50 v51 v52 v53 v54 v55 v56 v57 v58 v59 v60 v61 v62 v63 v64 v65 v66 v67 v68 v69 v70 v71 v72 v73 v74 v75 v76 v77 v78 v79 v80 v81 v82 v83 v84 v85 v86 v87 v88 v89 v90 v91 v92 v93 v94 v95 v96 v97 v98 v99 v100 v101 v102 v103 v104 v105 v106 v107 v108 v109 v110 v111 v112 v113 v114 v115 v116 v117 v118 v119 v120 v121 v122 v123 v124 v125 v126 v127 v128 v129 : Value), (True) → Q0 (.exit 0) ⟨List.toArray ((.int .i64 n) :: u1 :: (.bool false) :: (.pointer (some ⟨gb, 0, none⟩)) :: (.int .i64 (wn : Int)) :: (.int .i64 ((r : Nat) : Int)) :: v6 :: v7 :: v8 :: v9 :: v10 :: v11 :: v12 :: v13 :: v14 :: v15 :: v16 :: u17 :: u18 :: u19 :: u20 :: u21 :: u22 :: u23 :: u24 :: v25 :: v26 :: v27 :: v28 :: v29 :: v30 :: v31 :: v32 :: v33 :: v34 :: v35 :: v36 :: v37 :: v38 :: v39 :: v40 :: v41 :: v42 :: v43 :: v44 :: v45 :: v46 :: v47 :: v48 :: v49 :: v50 :: v51 :: v52 :: v53 :: v54 :: v55 :: v56 :: v57 :: v58 :: v59 :: v60 :: v61 :: v62 :: v63 :: v64 :: v65 :: v66 :: v67 :: v68 :: v69 :: v70 :: v71 :: v72 :: v73 :: v74 :: v75 :: v76 :: v77 :: v78 :: v79 :: v80 :: v81 :: v82 :: v83 :: v84 :: v85 :: v86 :: v87 :: v88 :: v89 :: v90 :: v91 :: v92 :: v93 :: v94 :: v95 :: v96 :: v97 :: v98 :: v99 :: v100 :: v101 :: v102 :: v103 :: v104 :: v105 :: v106 :: v107 :: v108 :: v109 :: v110 :: v111 :: v112 :: v113 :: v114 :: v115 :: v116 :: v117 :: v118 :: v119 :: v120 :: v121 :: v122 :: v123 :: v124 :: v125 :: v126 :: v127 :: v128 :: v129 :: u130 :: []), []⟩ w) :
    Code.wp Try.prog (sub [1, 1, 1, 0, 1, 0, 0] codePR) (Exit.then K Q0) ⟨List.toArray ((.int .i64 n) :: u1 :: (.bool false) :: (.pointer (some ⟨gb, 0, none⟩)) :: (.int .i64 (wn : Int)) :: (.int .i64 ((r : Nat) : Int)) :: u6 :: u7 :: u8 :: u9 :: u10 :: u11 :: u12 :: u13 :: u14 :: u15 :: u16 :: u17 :: u18 :: u19 :: u20 :: u21 :: u22 :: u23 :: u24 :: u25 :: u26 :: u27 :: u28 :: u29 :: u30 :: u31 :: u32 :: u33 :: u34 :: u35 :: u36 :: u37 :: u38 :: u39 :: u40 :: u41 :: u42 :: u43 :: u44 :: u45 :: u46 :: u47 :: u48 :: u49 :: u50 :: u51 :: u52 :: u53 :: u54 :: u55 :: u56 :: u57 :: u58 :: u59 :: u60 :: u61 :: u62 :: u63 :: u64 :: u65 :: u66 :: u67 :: u68 :: u69 :: u70 :: u71 :: u72 :: u73 :: u74 :: u75 :: u76 :: u77 :: u78 :: u79 :: u80 :: u81 :: u82 :: u83 :: u84 :: u85 :: u86 :: u87 :: u88 :: u89 :: u90 :: u91 :: u92 :: u93 :: u94 :: u95 :: u96 :: u97 :: u98 :: u99 :: u100 :: u101 :: u102 :: u103 :: u104 :: u105 :: u106 :: u107 :: u108 :: u109 :: u110 :: u111 :: u112 :: u113 :: u114 :: u115 :: u116 :: u117 :: u118 :: u119 :: u120 :: u121 :: u122 :: u123 :: u124 :: u125 :: u126 :: u127 :: u128 :: u129 :: u130 :: []), []⟩ w := by
  have HK := Lib.hid hK
  have HX := Lib.hid hX
  clear hK hX
  conv => arg 2; whnf
  obtain ⟨hi, hG⟩ := hI
  have HG0 := Lib.hid hG
  have hb := gOk_bd hg
  have hgy := (gOk_yes hg).1
  have hw7 := gWid_bd l d c
  rw [hwn] at hw7
  clear hG
  by_cases hlt : r < 16
  · have i0 : (0 : Int) ≤ (r : Int) := by omega
    have i1 : (r : Int) < 16 := by omega
    have hk := plOk_mk hg i0 i1
    obtain ⟨p0, p1, q5, q6⟩ := parity_in hk
    have HP := Lib.hid (fun W => parity_any l d c (r : Int) W (by omega) (by omega) (by omega) (by omega))
    have HN := Lib.hid (fun W => numbers_any l d c (r : Int) W (by omega) (by omega) (by omega) (by omega))
    have HD := Lib.hid (fun W => disk_any l d c (r : Int) (wn : Int) W (by omega) (by omega) (by omega) (by omega) (by omega))
    rw [plD_no (plDok_no (l := l) (d := d) (c := c) (r := (r : Int)) (k := (wn : Int)) (by rw [hwn]; omega))] at HD
    have hln : (plNums l d c (r : Int)).length = wn := by rw [plNums_len hk, hwn]; rfl
    have HGet := Lib.hid (fun (j : Nat) (hj : j < wn) => plNums_get hk (k := j) (by rw [hwn]; omega))
    have HLen := Lib.hid (rowX_all (r := (r : Int)) hg hwn)
    have hwd2 : 2 ≤ wn := by have := gWid_yes hg; have := gOk_yes hg; omega
    have hp6 : l = 6 → parX l d c (r : Int) = [plQ l d c (r : Int), plP l d c (r : Int)] := fun h => if_pos h
    have hp5 : l = 5 → parX l d c (r : Int) = [plP l d c (r : Int)] := fun h => if_neg (by omega)
    generalize plNums l d c (r : Int) = ns at HN hln HGet
    have elen : ((ns.length : Int) != (wn : Int)) = false := by rw [hln]; simp
    have HGk := Lib.hid hg
    have HWn := Lib.hid hwn
    have HR0 : Hid (rowX l d c (r : Int) 0 = parX l d c (r : Int)) := rfl
    have hgl : gb < w.heap.size := World.block_lt_of_cell? _ _ HG0.out.1
    have hne : w.heap.size ≠ gb := by omega
    have hmm2 := hmm
    clear HX hk hg hwn
    have S1 := HG0.out.later (below1 w (.map #[] 0))
    have M1 := Lib.hid (setI_new w)
    obtain ⟨g1, g2, g3, F1⟩ := S1
    go_wp2_with fail
    (with_reducible refine (HP.out _).mono ?_); rintro e w2 ⟨rfl, hbb⟩
    have S2 := GS.later (w0 := w0) (B := w0.heap.size) ⟨g1, g2, g3, F1⟩ hbb
    have M2 := Lib.hid (M1.out.below hbb)
    have hz := HG0.out.2.2.2.size
    clear hbb g1 g2 g3 F1
    obtain ⟨W3, hrun, hS3, hg3⟩ := M2.out.store (by simp) (plP l d c (r : Int)) (by omega) (by simp)
    have G3 := S2.grown hg3 S2.2.2.2.size (fun k e => by injection e with e; subst e; exact ⟨hz, hne⟩)
    obtain ⟨g1, g2, g3, F2⟩ := S2
    rcases hgy with ⟨rfl, _⟩ | ⟨rfl, _⟩
    · have HPX : [plP 5 d c (r : Int)] = rowX 5 d c (r : Int) 0 := by rw [HR0.out, hp5 rfl]
      have hSx := hS3
      have Gx := G3
      clear hS3 G3 hp5 hp6 hg3
      generalize plP 5 d c (r : Int) = p at HP p0 p1 q6 hrun hSx HPX
      have HSx := Lib.hid hSx
      obtain ⟨g4, g5, g6, _⟩ := id Gx
      go_wp2_with fail
      (with_reducible refine (HN.out _).mono ?_); rintro e w5 ⟨A, cp, rfl, hrd, hbb⟩
      obtain ⟨ab, ao, rfl, hab, hcell⟩ := hrd.2 (by omega)
      have Hln := Lib.hid hln
      have HS5 := Lib.hid (HSx.out.below hbb)
      have HT5 := Lib.hid (show VS w0 w5 gb w.heap.size _ d c (r : Int) ab ao ns 0 from ⟨GS.later ⟨g4, g5, g6, Gx.2.2.2⟩ hbb, HPX ▸ HS5.out, HG0.out.2.2.2.size, hne, HS5.out.not_cell (hcell 0 (by omega)), hcell⟩)
      clear hbb hcell hab hrd g4 g5 g6
      go_upto_block 2 with fail
      refine wp_block ?_
      refine prB _ _ _ _ _ _ _ _ _ _ _ _ _ _ _ _ _ _ _ _ _ _ _ _ _ _ _ _ _ _ _ _ _ _ _ _ _ _ _ _ _ _ _ _ _ _ _ _ _ _ _ _ _ _ _ _ _ _ _ _ _ _ _ _ _ _ _ _ _ _ _ _ _ _ _ _ _ _ _ _ _ _ _ _ _ _ _ _ _ _ _ _ _ _ _ _ _ _ _ _ _ _ _ _ _ _ _ _ _ _ _ _ _ _ _ _ _ _ _ _ _ _ _ _ HGk.out hlt HWn.out Hln.out HGet.out ⟨Nat.zero_le _, HT5.out⟩ (fun v11 v12 v13 v14 v15 v16 v50 v51 v52 v53 v54 v55 v56 v57 v58 v59 v60 v61 v62 v63 v64 v65 v66 v67 v68 v69 v70 v71 v72 v73 v74 v75 v76 v77 v78 v79 v80 v81 v82 v83 v84 v85 v86 v87 v88 v89 v90 v91 v92 v93 v94 v95 v96 v97 v98 v99 v100 v101 v102 v103 v104 v105 v106 v107 v108 v109 v110 v111 v112 v113 v114 v115 v116 v117 k V hI hx => ?_)
      subst hx
      obtain ⟨g1, g2, g3, F6⟩ := hI.2.gs
      have hlenm := hI.2.mp.len
      simp only [HLen.out] at hlenm
      clear HT5 HS5 HSx hI
      go_wp2_with fail
      (with_reducible refine (HD.out _).mono ?_); rintro e w7 ⟨rfl, hbb⟩
      have S7 := Lib.hid (GS.later (w0 := w0) ⟨g1, g2, g3, F6⟩ hbb)
      clear hbb g1 g2 g3 F6 hlenm
      go_wp2_with fail
      exact HK.out _ _ _ _ _ _ _ _ _ _ _ _ _ _ _ _ _ _ _ _ _ _ _ _ _ _ _ _ _ _ _ _ _ _ _ _ _ _ _ _ _ _ _ _ _ _ _ _ _ _ _ _ _ _ _ _ _ _ _ _ _ _ _ _ _ _ _ _ _ _ _ _ _ _ _ _ _ _ _ _ _ _ _ _ _ _ _ _ _ _ _ _ _ _ _ _ _ _ _ _ _ _ _ _ _ _ _ _ _ _ _ _ _ _ _ _ _ ⟨by omega, S7.out⟩ (by omega)
    · obtain ⟨a1, a2, a3⟩ := q6 rfl
      obtain ⟨W4, hrun4, hS4, hg4⟩ := hS3.store (by simp) (plQ 6 d c (r : Int)) (by omega) (by simpa using a3)
      have Gx := G3.grown hg4 G3.2.2.2.size (fun k e => by injection e with e; subst e; exact ⟨hz, hne⟩)
      obtain ⟨g7, g8, g9, F3⟩ := G3
      have HPX : [plQ 6 d c (r : Int), plP 6 d c (r : Int)] = rowX 6 d c (r : Int) 0 := by rw [HR0.out, hp6 rfl]
      have hSx := hS4
      clear hS3 hS4 hp5 hp6 hg3 hg4
      generalize plP 6 d c (r : Int) = p at HP p0 p1 q6 hrun hSx HPX a3
      generalize plQ 6 d c (r : Int) = q at HP q5 q6 hrun4 hSx HPX a1 a2 a3
      have HSx := Lib.hid hSx
      obtain ⟨g4, g5, g6, _⟩ := id Gx
      go_wp2_with fail
      (with_reducible refine (HN.out _).mono ?_); rintro e w5 ⟨A, cp, rfl, hrd, hbb⟩
      obtain ⟨ab, ao, rfl, hab, hcell⟩ := hrd.2 (by omega)
      have Hln := Lib.hid hln
      have HS5 := Lib.hid (HSx.out.below hbb)
      have HT5 := Lib.hid (show VS w0 w5 gb w.heap.size _ d c (r : Int) ab ao ns 0 from ⟨GS.later ⟨g4, g5, g6, Gx.2.2.2⟩ hbb, HPX ▸ HS5.out, HG0.out.2.2.2.size, hne, HS5.out.not_cell (hcell 0 (by omega)), hcell⟩)
      clear hbb hcell hab hrd g4 g5 g6
      go_upto_block 2 with fail
      refine wp_block ?_
      refine prB _ _ _ _ _ _ _ _ _ _ _ _ _ _ _ _ _ _ _ _ _ _ _ _ _ _ _ _ _ _ _ _ _ _ _ _ _ _ _ _ _ _ _ _ _ _ _ _ _ _ _ _ _ _ _ _ _ _ _ _ _ _ _ _ _ _ _ _ _ _ _ _ _ _ _ _ _ _ _ _ _ _ _ _ _ _ _ _ _ _ _ _ _ _ _ _ _ _ _ _ _ _ _ _ _ _ _ _ _ _ _ _ _ _ _ _ _ _ _ _ _ _ _ _ HGk.out hlt HWn.out Hln.out HGet.out ⟨Nat.zero_le _, HT5.out⟩ (fun v11 v12 v13 v14 v15 v16 v50 v51 v52 v53 v54 v55 v56 v57 v58 v59 v60 v61 v62 v63 v64 v65 v66 v67 v68 v69 v70 v71 v72 v73 v74 v75 v76 v77 v78 v79 v80 v81 v82 v83 v84 v85 v86 v87 v88 v89 v90 v91 v92 v93 v94 v95 v96 v97 v98 v99 v100 v101 v102 v103 v104 v105 v106 v107 v108 v109 v110 v111 v112 v113 v114 v115 v116 v117 k V hI hx => ?_)
      subst hx
      obtain ⟨g1, g2, g3, F6⟩ := hI.2.gs
      have hlenm := hI.2.mp.len
      simp only [HLen.out] at hlenm
      clear HT5 HS5 HSx hI
      go_wp2_with fail
      (with_reducible refine (HD.out _).mono ?_); rintro e w7 ⟨rfl, hbb⟩
      have S7 := Lib.hid (GS.later (w0 := w0) ⟨g1, g2, g3, F6⟩ hbb)
      clear hbb g1 g2 g3 F6 hlenm
      go_wp2_with fail
      exact HK.out _ _ _ _ _ _ _ _ _ _ _ _ _ _ _ _ _ _ _ _ _ _ _ _ _ _ _ _ _ _ _ _ _ _ _ _ _ _ _ _ _ _ _ _ _ _ _ _ _ _ _ _ _ _ _ _ _ _ _ _ _ _ _ _ _ _ _ _ _ _ _ _ _ _ _ _ _ _ _ _ _ _ _ _ _ _ _ _ _ _ _ _ _ _ _ _ _ _ _ _ _ _ _ _ _ _ _ _ _ _ _ _ _ _ _ _ _ ⟨by omega, S7.out⟩ (by omega)
  · have i1 : ¬ (r : Int) < 16 := by omega
    clear HK
    go_wp2_with fail
    exact HX.out _ _ _ _ _ _ _ _ _ _ _ _ _ _ _ _ _ _ _ _ _ _ _ _ _ _ _ _ _ _ _ _ _ _ _ _ _ _ _ _ _ _ _ _ _ _ _ _ _ _ _ _ _ _ _ _ _ _ _ _ _ _ _ _ _ _ _ _ _ _ _ _ _ _ _ _ _ _ _ _ _ _ _ _ _ _ _ _ _ _ _ _ _ _ _ _ _ _ _ _ _ _ _ _ _ _ _ _ _ _ _ _ _ _ _ _ (by trivial)
set_option maxRecDepth 100000 in
set_option maxHeartbeats 3200000 in
theorem prA {w0 : World} {n l d c : Int} {gb wn : Nat}  {w : World} (u1 u6 u7 u8 u9 u10 u11 u12 u13 u14 u15 u16 u17 u18 u19 u20 u21 u22 u23 u24 u25 u26 u27 u28 u29 u30 u31 u32 u33 u34 u35 u36 u37 u38 u39 u40 u41 u42 u43 u44 u45 u46 u47 u48 u49 u50 u51 u52 u53 u54 u55 u56 u57 u58 u59 u60 u61 u62 u63 u64 u65 u66 u67 u68 u69 u70 u71 u72 u73 u74 u75 u76 u77 u78 u79 u80 u81 u82 u83 u84 u85 u86 u87 u88 u89 u90 u91 u92 u93 u94 u95 u96 u97 u98 u99 u100 u101 u102 u103 u104 u105 u106 u107 u108 u109 u110 u111 u112 u113 u114 u115 u116 u117 u118 u119 u120 u121 u122 u123 u124 u125 u126 u127 u128 u129 u130 : Value) (Q : Exit → Act → World → Prop) (hg : gOk l d c = true) (hwn : gWid l d c = (wn : Int)) (hmm : ∀ V : World, (Instr.makeMap 44 none).run Try.prog V = .ok (.map (some V.heap.size)) (V.alloc (.map #[] 0))) (hI : (0 ≤ 16 ∧ GS w0 w0.heap.size gb l d c w))
    (hX : ∀ (v6 v7 v8 v9 v10 v11 v12 v13 v14 v15 v16 v25 v26 v27 v28 v29 v30 v31 v32 v33 v34 v35 v36 v37 v38 v39 v40 v41 v42 v43 v44 v45 v46 v47 v48 v49 v50 v51 v52 v53 v54 v55 v56 v57 v58 v59 v60 v61 v62 v63 v64 v65 v66 v67 v68 v69 v70 v71 v72 v73 v74 v75 v76 v77 v78 v79 v80 v81 v82 v83 v84 v85 v86 v87 v88 v89 v90 v91 v92 v93 v94 v95 v96 v97 v98 v99 v100 v101 v102 v103 v104 v105 v106 v107 v108 v109 v110 v111 v112 v113 v114 v115 v116 v117 v118 v119 v120 v121 v122 v123 v124 v125 v126 v127 v128 v129 : Value) (r : Nat) (V : World), (r ≤ 16 ∧ GS w0 w0.heap.size gb l d c V) → (True) → Q (.exit 0) ⟨List.toArray ((.int .i64 n) :: u1 :: (.bool false) :: (.pointer (some ⟨gb, 0, none⟩)) :: (.int .i64 (wn : Int)) :: (.int .i64 ((r : Nat) : Int)) :: v6 :: v7 :: v8 :: v9 :: v10 :: v11 :: v12 :: v13 :: v14 :: v15 :: v16 :: u17 :: u18 :: u19 :: u20 :: u21 :: u22 :: u23 :: u24 :: v25 :: v26 :: v27 :: v28 :: v29 :: v30 :: v31 :: v32 :: v33 :: v34 :: v35 :: v36 :: v37 :: v38 :: v39 :: v40 :: v41 :: v42 :: v43 :: v44 :: v45 :: v46 :: v47 :: v48 :: v49 :: v50 :: v51 :: v52 :: v53 :: v54 :: v55 :: v56 :: v57 :: v58 :: v59 :: v60 :: v61 :: v62 :: v63 :: v64 :: v65 :: v66 :: v67 :: v68 :: v69 :: v70 :: v71 :: v72 :: v73 :: v74 :: v75 :: v76 :: v77 :: v78 :: v79 :: v80 :: v81 :: v82 :: v83 :: v84 :: v85 :: v86 :: v87 :: v88 :: v89 :: v90 :: v91 :: v92 :: v93 :: v94 :: v95 :: v96 :: v97 :: v98 :: v99 :: v100 :: v101 :: v102 :: v103 :: v104 :: v105 :: v106 :: v107 :: v108 :: v109 :: v110 :: v111 :: v112 :: v113 :: v114 :: v115 :: v116 :: v117 :: v118 :: v119 :: v120 :: v121 :: v122 :: v123 :: v124 :: v125 :: v126 :: v127 :: v128 :: v129 :: u130 :: []), []⟩ V) :
    Code.wp Try.prog (.loop (sub [1, 1, 1, 0, 1, 0, 0] codePR)) Q ⟨List.toArray ((.int .i64 n) :: u1 :: (.bool false) :: (.pointer (some ⟨gb, 0, none⟩)) :: (.int .i64 (wn : Int)) :: (.int .i64 ((0 : Nat) : Int)) :: u6 :: u7 :: u8 :: u9 :: u10 :: u11 :: u12 :: u13 :: u14 :: u15 :: u16 :: u17 :: u18 :: u19 :: u20 :: u21 :: u22 :: u23 :: u24 :: u25 :: u26 :: u27 :: u28 :: u29 :: u30 :: u31 :: u32 :: u33 :: u34 :: u35 :: u36 :: u37 :: u38 :: u39 :: u40 :: u41 :: u42 :: u43 :: u44 :: u45 :: u46 :: u47 :: u48 :: u49 :: u50 :: u51 :: u52 :: u53 :: u54 :: u55 :: u56 :: u57 :: u58 :: u59 :: u60 :: u61 :: u62 :: u63 :: u64 :: u65 :: u66 :: u67 :: u68 :: u69 :: u70 :: u71 :: u72 :: u73 :: u74 :: u75 :: u76 :: u77 :: u78 :: u79 :: u80 :: u81 :: u82 :: u83 :: u84 :: u85 :: u86 :: u87 :: u88 :: u89 :: u90 :: u91 :: u92 :: u93 :: u94 :: u95 :: u96 :: u97 :: u98 :: u99 :: u100 :: u101 :: u102 :: u103 :: u104 :: u105 :: u106 :: u107 :: u108 :: u109 :: u110 :: u111 :: u112 :: u113 :: u114 :: u115 :: u116 :: u117 :: u118 :: u119 :: u120 :: u121 :: u122 :: u123 :: u124 :: u125 :: u126 :: u127 :: u128 :: u129 :: u130 :: []), []⟩ w := by
  refine wp_loop_ghost (fun gk a V => ∀ C : Prop, (∀ (u6 u7 u8 u9 u10 u11 u12 u13 u14 u15 u16 u25 u26 u27 u28 u29 u30 u31 u32 u33 u34 u35 u36 u37 u38 u39 u40 u41 u42 u43 u44 u45 u46 u47 u48 u49 u50 u51 u52 u53 u54 u55 u56 u57 u58 u59 u60 u61 u62 u63 u64 u65 u66 u67 u68 u69 u70 u71 u72 u73 u74 u75 u76 u77 u78 u79 u80 u81 u82 u83 u84 u85 u86 u87 u88 u89 u90 u91 u92 u93 u94 u95 u96 u97 u98 u99 u100 u101 u102 u103 u104 u105 u106 u107 u108 u109 u110 u111 u112 u113 u114 u115 u116 u117 u118 u119 u120 u121 u122 u123 u124 u125 u126 u127 u128 u129 : Value) (r : Nat), gk = 16 - r → (r ≤ 16 ∧ GS w0 w0.heap.size gb l d c V) → a = ⟨List.toArray ((.int .i64 n) :: u1 :: (.bool false) :: (.pointer (some ⟨gb, 0, none⟩)) :: (.int .i64 (wn : Int)) :: (.int .i64 ((r : Nat) : Int)) :: u6 :: u7 :: u8 :: u9 :: u10 :: u11 :: u12 :: u13 :: u14 :: u15 :: u16 :: u17 :: u18 :: u19 :: u20 :: u21 :: u22 :: u23 :: u24 :: u25 :: u26 :: u27 :: u28 :: u29 :: u30 :: u31 :: u32 :: u33 :: u34 :: u35 :: u36 :: u37 :: u38 :: u39 :: u40 :: u41 :: u42 :: u43 :: u44 :: u45 :: u46 :: u47 :: u48 :: u49 :: u50 :: u51 :: u52 :: u53 :: u54 :: u55 :: u56 :: u57 :: u58 :: u59 :: u60 :: u61 :: u62 :: u63 :: u64 :: u65 :: u66 :: u67 :: u68 :: u69 :: u70 :: u71 :: u72 :: u73 :: u74 :: u75 :: u76 :: u77 :: u78 :: u79 :: u80 :: u81 :: u82 :: u83 :: u84 :: u85 :: u86 :: u87 :: u88 :: u89 :: u90 :: u91 :: u92 :: u93 :: u94 :: u95 :: u96 :: u97 :: u98 :: u99 :: u100 :: u101 :: u102 :: u103 :: u104 :: u105 :: u106 :: u107 :: u108 :: u109 :: u110 :: u111 :: u112 :: u113 :: u114 :: u115 :: u116 :: u117 :: u118 :: u119 :: u120 :: u121 :: u122 :: u123 :: u124 :: u125 :: u126 :: u127 :: u128 :: u129 :: u130 :: []), []⟩ → C) → C) (16 - 0) ?_ ?_
  · intro C hC
    exact hC _ _ _ _ _ _ _ _ _ _ _ _ _ _ _ _ _ _ _ _ _ _ _ _ _ _ _ _ _ _ _ _ _ _ _ _ _ _ _ _ _ _ _ _ _ _ _ _ _ _ _ _ _ _ _ _ _ _ _ _ _ _ _ _ _ _ _ _ _ _ _ _ _ _ _ _ _ _ _ _ _ _ _ _ _ _ _ _ _ _ _ _ _ _ _ _ _ _ _ _ _ _ _ _ _ _ _ _ _ _ _ _ _ _ _ _ (0) rfl hI rfl
  · intro gk a V hI'
    refine hI' _ ?_
    intro u6 u7 u8 u9 u10 u11 u12 u13 u14 u15 u16 u25 u26 u27 u28 u29 u30 u31 u32 u33 u34 u35 u36 u37 u38 u39 u40 u41 u42 u43 u44 u45 u46 u47 u48 u49 u50 u51 u52 u53 u54 u55 u56 u57 u58 u59 u60 u61 u62 u63 u64 u65 u66 u67 u68 u69 u70 u71 u72 u73 u74 u75 u76 u77 u78 u79 u80 u81 u82 u83 u84 u85 u86 u87 u88 u89 u90 u91 u92 u93 u94 u95 u96 u97 u98 u99 u100 u101 u102 u103 u104 u105 u106 u107 u108 u109 u110 u111 u112 u113 u114 u115 u116 u117 u118 u119 u120 u121 u122 u123 u124 u125 u126 u127 u128 u129 r hk hinv ha
    subst ha
    subst hk
    refine prAb _ _ _ _ _ _ _ _ _ _ _ _ _ _ _ _ _ _ _ _ _ _ _ _ _ _ _ _ _ _ _ _ _ _ _ _ _ _ _ _ _ _ _ _ _ _ _ _ _ _ _ _ _ _ _ _ _ _ _ _ _ _ _ _ _ _ _ _ _ _ _ _ _ _ _ _ _ _ _ _ _ _ _ _ _ _ _ _ _ _ _ _ _ _ _ _ _ _ _ _ _ _ _ _ _ _ _ _ _ _ _ _ _ _ _ _ _ _ _ _ _ _ _ _ _ _ _ _ hg hwn hmm hinv (fun v6 v7 v8 v9 v10 v11 v12 v13 v14 v15 v16 v25 v26 v27 v28 v29 v30 v31 v32 v33 v34 v35 v36 v37 v38 v39 v40 v41 v42 v43 v44 v45 v46 v47 v48 v49 v50 v51 v52 v53 v54 v55 v56 v57 v58 v59 v60 v61 v62 v63 v64 v65 v66 v67 v68 v69 v70 v71 v72 v73 v74 v75 v76 v77 v78 v79 v80 v81 v82 v83 v84 v85 v86 v87 v88 v89 v90 v91 v92 v93 v94 v95 v96 v97 v98 v99 v100 v101 v102 v103 v104 v105 v106 v107 v108 v109 v110 v111 v112 v113 v114 v115 v116 v117 v118 v119 v120 v121 v122 v123 v124 v125 v126 v127 v128 v129  V2 h2 hm => ?_) (fun v6 v7 v8 v9 v10 v11 v12 v13 v14 v15 v16 v25 v26 v27 v28 v29 v30 v31 v32 v33 v34 v35 v36 v37 v38 v39 v40 v41 v42 v43 v44 v45 v46 v47 v48 v49 v50 v51 v52 v53 v54 v55 v56 v57 v58 v59 v60 v61 v62 v63 v64 v65 v66 v67 v68 v69 v70 v71 v72 v73 v74 v75 v76 v77 v78 v79 v80 v81 v82 v83 v84 v85 v86 v87 v88 v89 v90 v91 v92 v93 v94 v95 v96 v97 v98 v99 v100 v101 v102 v103 v104 v105 v106 v107 v108 v109 v110 v111 v112 v113 v114 v115 v116 v117 v118 v119 v120 v121 v122 v123 v124 v125 v126 v127 v128 v129 hx => hX v6 v7 v8 v9 v10 v11 v12 v13 v14 v15 v16 v25 v26 v27 v28 v29 v30 v31 v32 v33 v34 v35 v36 v37 v38 v39 v40 v41 v42 v43 v44 v45 v46 v47 v48 v49 v50 v51 v52 v53 v54 v55 v56 v57 v58 v59 v60 v61 v62 v63 v64 v65 v66 v67 v68 v69 v70 v71 v72 v73 v74 v75 v76 v77 v78 v79 v80 v81 v82 v83 v84 v85 v86 v87 v88 v89 v90 v91 v92 v93 v94 v95 v96 v97 v98 v99 v100 v101 v102 v103 v104 v105 v106 v107 v108 v109 v110 v111 v112 v113 v114 v115 v116 v117 v118 v119 v120 v121 v122 v123 v124 v125 v126 v127 v128 v129 r V hinv hx)
    refine ⟨_, hm, fun C hC => ?_⟩
    exact hC v6 v7 v8 v9 v10 v11 v12 v13 v14 v15 v16 v25 v26 v27 v28 v29 v30 v31 v32 v33 v34 v35 v36 v37 v38 v39 v40 v41 v42 v43 v44 v45 v46 v47 v48 v49 v50 v51 v52 v53 v54 v55 v56 v57 v58 v59 v60 v61 v62 v63 v64 v65 v66 v67 v68 v69 v70 v71 v72 v73 v74 v75 v76 v77 v78 v79 v80 v81 v82 v83 v84 v85 v86 v87 v88 v89 v90 v91 v92 v93 v94 v95 v96 v97 v98 v99 v100 v101 v102 v103 v104 v105 v106 v107 v108 v109 v110 v111 v112 v113 v114 v115 v116 v117 v118 v119 v120 v121 v122 v123 v124 v125 v126 v127 v128 v129 ((r + 1)) rfl h2 rfl
end Go.Proofs.Ytclmgldlpjhepaa
