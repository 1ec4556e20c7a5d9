/- SlotsTurns: its loops. -/
import Derived.Test.YtiipdhmfdgbmiaaDoorTbbc
import Derived.Test.YtiipdhmfdgbmiaaDoorTbak
import Derived.Test.YtiipdhmfdgbmiaaDoorTbae
import Derived.Test.YtiipdhmfdgbmiaaDoorTbaa
set_option linter.unusedVariables false
set_option linter.unusedSimpArgs false
namespace Go.Proofs.YtiipdhmfdgbmiaaDoor
open Go.RowKit

noncomputable def codeST : Code := Tryd.f3.body.getD .skip
attribute [local go_sem ↓] su_eql su_neq
theorem tg_step' {N M : Bch} {g : Nat} (h : TG N (g - 1)) (h1 : 1 ≤ g) (hg : g ≤ 9) (st : StG N M [true, true, true] (sG g)) : TG M g := by
  obtain ⟨q, rfl⟩ : ∃ q, g = q + 1 := ⟨g - 1, by omega⟩
  rw [Nat.add_sub_cancel] at h
  exact tg_step h hg st
set_option maxRecDepth 100000 in
set_option maxHeartbeats 3200000 in
theorem stAb {w0 : World} {b gl m : Nat} {g : Nat} {H : BH} {N : Bch} {w : World} (u1 u2 u3 u4 u5 u6 u8 u11 u12 u13 u14 u15 u16 u17 u18 u19 u20 u21 u22 u23 u24 u25 u26 u27 u28 u29 u30 u31 u32 u33 u34 u35 u36 u37 u38 u39 u40 u41 u42 u43 u44 u45 u46 u47 u48 u49 u50 u51 u52 u53 u54 u55 u56 u57 u58 u59 u60 u61 u62 u63 u64 u65 u66 u67 u68 u69 u70 u71 u72 u73 u74 u75 u76 u77 u78 u79 u80 u81 u82 u83 u84 u85 u86 u87 u88 u89 u90 u91 u92 u93 u94 u95 u96 u97 u98 u99 u100 u101 u102 u103 u104 u105 u106 u107 u108 u109 u110 u111 u112 u113 u114 u115 u116 u117 u118 u119 u120 u121 u122 u123 u124 u125 u126 u127 u128 u129 u130 u131 : Value) (K : Act → World → Prop) (Q0 : Exit → Act → World → Prop) (ht : TabOk w0) (hm : 2 ≤ m ∧ m ≤ 9) (hI : (1 ≤ g ∧ g ≤ m + 1 ∧ KX w0 w b H N [(gl, .cells #[.bool true, .bool true, .bool true] 4 (0, 0))] ∧ TG N (g - 1)))
    (hK : ∀ (v6 v11 v12 v13 v35 v36 v37 v38 v39 v40 v41 v42 v43 v44 v45 v46 v47 v48 v49 v50 v51 v52 v53 v54 v55 v56 v57 v58 v59 v60 v61 v62 v63 : Value) (H2 : BH) (N2 : Bch) (V : World), (1 ≤ (g + 1) ∧ (g + 1) ≤ m + 1 ∧ KX w0 V b H2 N2 [(gl, .cells #[.bool true, .bool true, .bool true] 4 (0, 0))] ∧ TG N2 ((g + 1) - 1)) → m + 1 - (g + 1) < m + 1 - g → K ⟨List.toArray ((.int .i64 ((m : Nat) : Int)) :: u1 :: u2 :: u3 :: u4 :: u5 :: v6 :: (.pointer (some ⟨b, 0, none⟩)) :: u8 :: (.slice (some ⟨gl, 0, none⟩) 3 3) :: (.int .i64 (((g + 1) : Nat) : Int)) :: v11 :: v12 :: v13 :: u14 :: u15 :: u16 :: u17 :: u18 :: u19 :: u20 :: u21 :: u22 :: u23 :: u24 :: u25 :: u26 :: u27 :: u28 :: u29 :: u30 :: u31 :: u32 :: u33 :: u34 :: v35 :: v36 :: v37 :: v38 :: v39 :: v40 :: v41 :: v42 :: v43 :: v44 :: v45 :: v46 :: v47 :: v48 :: v49 :: v50 :: v51 :: v52 :: v53 :: v54 :: v55 :: v56 :: v57 :: v58 :: v59 :: v60 :: v61 :: v62 :: v63 :: u64 :: u65 :: u66 :: u67 :: u68 :: u69 :: u70 :: u71 :: u72 :: u73 :: u74 :: u75 :: u76 :: u77 :: u78 :: u79 :: u80 :: u81 :: u82 :: u83 :: u84 :: u85 :: u86 :: u87 :: u88 :: u89 :: u90 :: u91 :: u92 :: u93 :: u94 :: u95 :: u96 :: u97 :: u98 :: u99 :: u100 :: u101 :: u102 :: u103 :: u104 :: u105 :: u106 :: u107 :: u108 :: u109 :: u110 :: u111 :: u112 :: u113 :: u114 :: u115 :: u116 :: u117 :: u118 :: u119 :: u120 :: u121 :: u122 :: u123 :: u124 :: u125 :: u126 :: u127 :: u128 :: u129 :: u130 :: u131 :: []), []⟩ V)
    (hX : ∀ (v6 v11 v12 v13 v35 v36 v37 v38 v39 v40 v41 v42 v43 v44 v45 v46 v47 v48 v49 v50 v51 v52 v53 v54 v55 v56 v57 v58 v59 v60 v61 v62 v63 : Value), (g = m + 1) → Q0 (.exit 0) ⟨List.toArray ((.int .i64 ((m : Nat) : Int)) :: u1 :: u2 :: u3 :: u4 :: u5 :: v6 :: (.pointer (some ⟨b, 0, none⟩)) :: u8 :: (.slice (some ⟨gl, 0, none⟩) 3 3) :: (.int .i64 ((g : Nat) : Int)) :: v11 :: v12 :: v13 :: u14 :: u15 :: u16 :: u17 :: u18 :: u19 :: u20 :: u21 :: u22 :: u23 :: u24 :: u25 :: u26 :: u27 :: u28 :: u29 :: u30 :: u31 :: u32 :: u33 :: u34 :: v35 :: v36 :: v37 :: v38 :: v39 :: v40 :: v41 :: v42 :: v43 :: v44 :: v45 :: v46 :: v47 :: v48 :: v49 :: v50 :: v51 :: v52 :: v53 :: v54 :: v55 :: v56 :: v57 :: v58 :: v59 :: v60 :: v61 :: v62 :: v63 :: u64 :: u65 :: u66 :: u67 :: u68 :: u69 :: u70 :: u71 :: u72 :: u73 :: u74 :: u75 :: u76 :: u77 :: u78 :: u79 :: u80 :: u81 :: u82 :: u83 :: u84 :: u85 :: u86 :: u87 :: u88 :: u89 :: u90 :: u91 :: u92 :: u93 :: u94 :: u95 :: u96 :: u97 :: u98 :: u99 :: u100 :: u101 :: u102 :: u103 :: u104 :: u105 :: u106 :: u107 :: u108 :: u109 :: u110 :: u111 :: u112 :: u113 :: u114 :: u115 :: u116 :: u117 :: u118 :: u119 :: u120 :: u121 :: u122 :: u123 :: u124 :: u125 :: u126 :: u127 :: u128 :: u129 :: u130 :: u131 :: []), []⟩ w) :
    Code.wp Tryd.prog (sub [1, 1, 1, 1, 1, 0, 1, 0, 0] codeST) (Exit.then K Q0) ⟨List.toArray ((.int .i64 ((m : Nat) : Int)) :: u1 :: u2 :: u3 :: u4 :: u5 :: u6 :: (.pointer (some ⟨b, 0, none⟩)) :: u8 :: (.slice (some ⟨gl, 0, none⟩) 3 3) :: (.int .i64 ((g : Nat) : Int)) :: u11 :: u12 :: u13 :: u14 :: u15 :: u16 :: u17 :: u18 :: u19 :: u20 :: u21 :: u22 :: u23 :: u24 :: u25 :: u26 :: u27 :: u28 :: u29 :: u30 :: u31 :: u32 :: u33 :: u34 :: u35 :: u36 :: u37 :: u38 :: u39 :: u40 :: u41 :: u42 :: u43 :: u44 :: u45 :: u46 :: u47 :: u48 :: u49 :: u50 :: u51 :: u52 :: u53 :: u54 :: u55 :: u56 :: u57 :: u58 :: u59 :: u60 :: u61 :: u62 :: u63 :: u64 :: u65 :: u66 :: u67 :: u68 :: u69 :: u70 :: u71 :: u72 :: u73 :: u74 :: u75 :: u76 :: u77 :: u78 :: u79 :: u80 :: u81 :: u82 :: u83 :: u84 :: u85 :: u86 :: u87 :: u88 :: u89 :: u90 :: u91 :: u92 :: u93 :: u94 :: u95 :: u96 :: u97 :: u98 :: u99 :: u100 :: u101 :: u102 :: u103 :: u104 :: u105 :: u106 :: u107 :: u108 :: u109 :: u110 :: u111 :: u112 :: u113 :: u114 :: u115 :: u116 :: u117 :: u118 :: u119 :: u120 :: u121 :: u122 :: u123 :: u124 :: u125 :: u126 :: u127 :: u128 :: u129 :: u130 :: u131 :: []), []⟩ w := by
  have HK := Lib.hid hK
  have HX := Lib.hid hX
  clear hK hX
  conv => arg 2; whnf
  obtain ⟨h1, h2, hK, hT⟩ := hI
  by_cases hlt : g ≤ m
  · have Ht := Lib.hid ht
    have HK1 := Lib.hid hK
    have HT := Lib.hid hT
    have CO := Lib.hid (fun V => one_any (g : Int) (5 * (g : Int)) V (by omega))
    have n5 : IntKind.i64.wrap (5 * (g : Int)) = 5 * (g : Int) := by rw [IntKind.wrap_i64]; omega
    have n6 : wrap64 (5 * (g : Int)) = 5 * (g : Int) := by unfold wrap64; omega
    have i1 : (g : Int) ≤ (m : Int) := by omega
    have hq := suEq_refl (sG g)
    have Hok := Lib.hid (sG_ok (g := g) (by omega))
    have H64 := Lib.hid (sG_64 (g := g) (by omega))
    have Hst := Lib.hid (fun (M : Bch) (st : StG N M [true, true, true] (sG g)) => tg_step' HT.out h1 (by omega) st)
    have Hbe := Lib.hid (fun (M : Bch) (h : TG M g) => tg_best h h1)
    have Hd9 := Lib.hid (show N.done ≤ 1000000 by have := HT.out.done; omega)
    generalize hsg : sG g = s at *
    have Hs := Lib.hid (show s = oneS (g : Int) (5 * (g : Int)) from hsg.symm)
    clear hK hT hsg HX ht
    go_wp2_with fail
    refine (CO.out _).mono ?_
    rintro e w1 ⟨s1, hs1, rfl, hb1⟩
    obtain rfl : s1 = s := hs1.trans Hs.out.symm
    have K1 := Lib.hid (HK1.out.below hb1)
    clear hb1 hs1
    go_wp2_with fail
    refine (kx_store K1.out s1 Hok.out H64.out Ht.out HT.out.dn HT.out.lf [true, true, true] gl 3 3 [true, true, true] 3 #[.bool true, .bool true, .bool true] 4 (0, 0) (List.mem_cons_self ..) rfl rfl (by decide) rfl HT.out.ps Hd9.out).mono ?_
    rintro e w2 ⟨rfl, H2, N2, k2, st2⟩
    have K2 := Lib.hid k2
    have T2 := Lib.hid (Hst.out _ st2)
    clear k2 st2 K1 HK1
    go_wp2_with fail
    have CB := kx_best K2.out Ht.out
    rw [(Hbe.out _ T2.out).1, (Hbe.out _ T2.out).2] at CB
    refine CB.mono ?_
    rintro e w3 ⟨v3, s3, hs3, rfl, _, k3, _⟩
    subst hs3
    have K3 := Lib.hid k3
    clear k3 CB
    go_wp2_with (first
      | (refine wpList_store_blk rfl 32 _ _ (by rfl) w3.heap.size 0 (.agg (suL s3).toArray) (by rfl) (by rfl) (suL suZ) 32 (heap_alloc_new _ _) (suL s3) rfl 11 rfl (by kernel_rfl) (Nat.le_refl 11) (suL_one s3) (suL s3) (by rfl) ?_; intro w4 h4 g4
         have k4 := K3.out.box _ g4 h4
         have K4 := Lib.hid (show KX w0 w4 b H2 N2 [(gl, .cells #[.bool true, .bool true, .bool true] 4 (0, 0))] from ⟨k4.bp, fun p hp => k4.kp p (List.mem_cons_of_mem _ hp)⟩)
         have S4 : SS w4 w4.heap.size w3.heap.size s3 w4 := ⟨sat_block h4, Below.refl _ _, (Array.getElem?_eq_some_iff.1 h4).1⟩
         clear h4 g4 k4))
    refine wp_region_noPanic (region_ord 10 [] (fun V => SS w4 w4.heap.size w3.heap.size s3 V) (by kernel_rfl) (by kernel_rfl) (fun _ _ _ _ _ h => h) fun R => ?_)
    change anyI _ _ _ _ _ _ 10 _ _ w4.drew
    have HS0 := Lib.hid (show (fun V => SS w4 w4.heap.size w3.heap.size s3 V) w4.drew from S4.drew)
    refine' anyI_take R 0 rfl (v := ?_) (by kernel_rfl) (by rfl) (fun V hV => ?hy) HS0.out ?_
    case hy => ((try dsimp only at hV);  obtain ⟨⟨q0, q1, q2, q3, q4, q5, q6, q7, q8, q9, q10⟩, _, _⟩ := hV; go_simp; try with_reducible rfl)
    try simp only [Act.put, List.getElem_toArray, List.getElem_cons_succ, List.getElem_cons_zero, List.setIfInBounds_toArray, List.set_cons_zero, List.set_cons_succ]
    refine' anyI_take R 1 rfl (v := ?_) (by kernel_rfl) (by rfl) (fun V hV => ?hy) HS0.out ?_
    case hy => ((try dsimp only at hV);  obtain ⟨⟨q0, q1, q2, q3, q4, q5, q6, q7, q8, q9, q10⟩, _, _⟩ := hV; go_simp; try with_reducible rfl)
    try simp only [Act.put, List.getElem_toArray, List.getElem_cons_succ, List.getElem_cons_zero, List.setIfInBounds_toArray, List.set_cons_zero, List.set_cons_succ]
    refine' anyI_take R 2 rfl (v := ?_) (by kernel_rfl) (by rfl) (fun V hV => ?hy) HS0.out ?_
    case hy => ((try dsimp only at hV);  obtain ⟨⟨q0, q1, q2, q3, q4, q5, q6, q7, q8, q9, q10⟩, _, _⟩ := hV; go_simp; try with_reducible rfl)
    try simp only [Act.put, List.getElem_toArray, List.getElem_cons_succ, List.getElem_cons_zero, List.setIfInBounds_toArray, List.set_cons_zero, List.set_cons_succ]
    refine' anyI_take R 3 rfl (v := ?_) (by kernel_rfl) (by rfl) (fun V hV => ?hy) HS0.out ?_
    case hy => ((try dsimp only at hV);  obtain ⟨⟨q0, q1, q2, q3, q4, q5, q6, q7, q8, q9, q10⟩, _, _⟩ := hV; go_simp; try with_reducible rfl)
    try simp only [Act.put, List.getElem_toArray, List.getElem_cons_succ, List.getElem_cons_zero, List.setIfInBounds_toArray, List.set_cons_zero, List.set_cons_succ]
    refine' anyI_take R 4 rfl (v := ?_) (by kernel_rfl) (by rfl) (fun V hV => ?hy) HS0.out ?_
    case hy => ((try dsimp only at hV);  obtain ⟨⟨q0, q1, q2, q3, q4, q5, q6, q7, q8, q9, q10⟩, _, _⟩ := hV; go_simp; try with_reducible rfl)
    try simp only [Act.put, List.getElem_toArray, List.getElem_cons_succ, List.getElem_cons_zero, List.setIfInBounds_toArray, List.set_cons_zero, List.set_cons_succ]
    refine' anyI_take R 5 rfl (v := ?_) (by kernel_rfl) (by rfl) (fun V hV => ?hy) HS0.out ?_
    case hy => ((try dsimp only at hV);  obtain ⟨⟨q0, q1, q2, q3, q4, q5, q6, q7, q8, q9, q10⟩, _, _⟩ := hV; go_simp; try with_reducible rfl)
    try simp only [Act.put, List.getElem_toArray, List.getElem_cons_succ, List.getElem_cons_zero, List.setIfInBounds_toArray, List.set_cons_zero, List.set_cons_succ]
    refine' anyI_take R 6 rfl (v := ?_) (by kernel_rfl) (by rfl) (fun V hV => ?hy) HS0.out ?_
    case hy => ((try dsimp only at hV);  obtain ⟨⟨q0, q1, q2, q3, q4, q5, q6, q7, q8, q9, q10⟩, _, _⟩ := hV; go_simp; try with_reducible rfl)
    try simp only [Act.put, List.getElem_toArray, List.getElem_cons_succ, List.getElem_cons_zero, List.setIfInBounds_toArray, List.set_cons_zero, List.set_cons_succ]
    refine anyI_one 7 (by kernel_rfl) rfl ?_
    try simp only [List.getElem_toArray, List.getElem_cons_succ, List.getElem_cons_zero]
    refine opE_step ?_
    rw [if_pos (by rfl)]
    go_simp
    go_at_call 10
    refine (CO.out _).mono ?_
    rintro e w5 ⟨s5, hs5, rfl, hb5⟩
    obtain rfl : s5 = s3 := hs5.trans Hs.out.symm
    replace HS0 := Lib.hid (SS.later HS0.out hb5)
    clear hb5 hs5
    dsimp only
    refine ⟨HS0.out, ?_⟩
    try simp only [Act.put, List.getElem_toArray, List.getElem_cons_succ, List.getElem_cons_zero, List.setIfInBounds_toArray, List.set_cons_zero, List.set_cons_succ]
    refine' anyI_take R 8 rfl (v := ?_) (by kernel_rfl) (by rfl) (fun V hV => ?hy) HS0.out ?_
    case hy => ((try dsimp only at hV);  obtain ⟨⟨q0, q1, q2, q3, q4, q5, q6, q7, q8, q9, q10⟩, _, _⟩ := hV; go_simp; try with_reducible rfl)
    try simp only [Act.put, List.getElem_toArray, List.getElem_cons_succ, List.getElem_cons_zero, List.setIfInBounds_toArray, List.set_cons_zero, List.set_cons_succ]
    refine' anyI_take R 9 rfl (v := ?_) (by kernel_rfl) (by rfl) (fun V hV => ?hy) HS0.out ?_
    case hy => ((try dsimp only at hV);  obtain ⟨⟨q0, q1, q2, q3, q4, q5, q6, q7, q8, q9, q10⟩, _, _⟩ := hV; go_simp; try with_reducible rfl)
    try simp only [Act.put, List.getElem_toArray, List.getElem_cons_succ, List.getElem_cons_zero, List.setIfInBounds_toArray, List.set_cons_zero, List.set_cons_succ]
    refine anyI_tail (by kernel_rfl) ?_
    try simp only [List.drop_succ_cons, List.drop_zero]
    clear R
    go_wp2_with fail
    refine NoPanic.normal ?_
    have K6 := Lib.hid (K4.out.below HS0.out.2.1)
    go_wp2_with fail
    exact HK.out _ _ _ _ _ _ _ _ _ _ _ _ _ _ _ _ _ _ _ _ _ _ _ _ _ _ _ _ _ _ _ _ _ H2 N2 _ ⟨by omega, by omega, K6.out, by rw [Nat.add_sub_cancel]; exact T2.out⟩ (by omega)
  · have i1 : ¬ (g : Int) ≤ (m : Int) := by omega
    have hgm : g = m + 1 := by omega
    have Hg := Lib.hid hgm
    clear HK hgm
    go_wp2_with fail
    exact HX.out _ _ _ _ _ _ _ _ _ _ _ _ _ _ _ _ _ _ _ _ _ _ _ _ _ _ _ _ _ _ _ _ _ Hg.out
set_option maxRecDepth 100000 in
set_option maxHeartbeats 3200000 in
theorem stA {w0 : World} {b gl m : Nat} {H0 : BH} {N0 : Bch} {w : World} (u1 u2 u3 u4 u5 u6 u8 u11 u12 u13 u14 u15 u16 u17 u18 u19 u20 u21 u22 u23 u24 u25 u26 u27 u28 u29 u30 u31 u32 u33 u34 u35 u36 u37 u38 u39 u40 u41 u42 u43 u44 u45 u46 u47 u48 u49 u50 u51 u52 u53 u54 u55 u56 u57 u58 u59 u60 u61 u62 u63 u64 u65 u66 u67 u68 u69 u70 u71 u72 u73 u74 u75 u76 u77 u78 u79 u80 u81 u82 u83 u84 u85 u86 u87 u88 u89 u90 u91 u92 u93 u94 u95 u96 u97 u98 u99 u100 u101 u102 u103 u104 u105 u106 u107 u108 u109 u110 u111 u112 u113 u114 u115 u116 u117 u118 u119 u120 u121 u122 u123 u124 u125 u126 u127 u128 u129 u130 u131 : Value) (Q : Exit → Act → World → Prop) (ht : TabOk w0) (hm : 2 ≤ m ∧ m ≤ 9) (hI : (1 ≤ 1 ∧ 1 ≤ m + 1 ∧ KX w0 w b H0 N0 [(gl, .cells #[.bool true, .bool true, .bool true] 4 (0, 0))] ∧ TG N0 (1 - 1)))
    (hX : ∀ (v6 v11 v12 v13 v35 v36 v37 v38 v39 v40 v41 v42 v43 v44 v45 v46 v47 v48 v49 v50 v51 v52 v53 v54 v55 v56 v57 v58 v59 v60 v61 v62 v63 : Value) (g : Nat) (H : BH) (N : Bch) (V : World), (1 ≤ g ∧ g ≤ m + 1 ∧ KX w0 V b H N [(gl, .cells #[.bool true, .bool true, .bool true] 4 (0, 0))] ∧ TG N (g - 1)) → (g = m + 1) → Q (.exit 0) ⟨List.toArray ((.int .i64 ((m : Nat) : Int)) :: u1 :: u2 :: u3 :: u4 :: u5 :: v6 :: (.pointer (some ⟨b, 0, none⟩)) :: u8 :: (.slice (some ⟨gl, 0, none⟩) 3 3) :: (.int .i64 ((g : Nat) : Int)) :: v11 :: v12 :: v13 :: u14 :: u15 :: u16 :: u17 :: u18 :: u19 :: u20 :: u21 :: u22 :: u23 :: u24 :: u25 :: u26 :: u27 :: u28 :: u29 :: u30 :: u31 :: u32 :: u33 :: u34 :: v35 :: v36 :: v37 :: v38 :: v39 :: v40 :: v41 :: v42 :: v43 :: v44 :: v45 :: v46 :: v47 :: v48 :: v49 :: v50 :: v51 :: v52 :: v53 :: v54 :: v55 :: v56 :: v57 :: v58 :: v59 :: v60 :: v61 :: v62 :: v63 :: u64 :: u65 :: u66 :: u67 :: u68 :: u69 :: u70 :: u71 :: u72 :: u73 :: u74 :: u75 :: u76 :: u77 :: u78 :: u79 :: u80 :: u81 :: u82 :: u83 :: u84 :: u85 :: u86 :: u87 :: u88 :: u89 :: u90 :: u91 :: u92 :: u93 :: u94 :: u95 :: u96 :: u97 :: u98 :: u99 :: u100 :: u101 :: u102 :: u103 :: u104 :: u105 :: u106 :: u107 :: u108 :: u109 :: u110 :: u111 :: u112 :: u113 :: u114 :: u115 :: u116 :: u117 :: u118 :: u119 :: u120 :: u121 :: u122 :: u123 :: u124 :: u125 :: u126 :: u127 :: u128 :: u129 :: u130 :: u131 :: []), []⟩ V) :
    Code.wp Tryd.prog (.loop (sub [1, 1, 1, 1, 1, 0, 1, 0, 0] codeST)) Q ⟨List.toArray ((.int .i64 ((m : Nat) : Int)) :: u1 :: u2 :: u3 :: u4 :: u5 :: u6 :: (.pointer (some ⟨b, 0, none⟩)) :: u8 :: (.slice (some ⟨gl, 0, none⟩) 3 3) :: (.int .i64 ((1 : Nat) : Int)) :: u11 :: u12 :: u13 :: u14 :: u15 :: u16 :: u17 :: u18 :: u19 :: u20 :: u21 :: u22 :: u23 :: u24 :: u25 :: u26 :: u27 :: u28 :: u29 :: u30 :: u31 :: u32 :: u33 :: u34 :: u35 :: u36 :: u37 :: u38 :: u39 :: u40 :: u41 :: u42 :: u43 :: u44 :: u45 :: u46 :: u47 :: u48 :: u49 :: u50 :: u51 :: u52 :: u53 :: u54 :: u55 :: u56 :: u57 :: u58 :: u59 :: u60 :: u61 :: u62 :: u63 :: u64 :: u65 :: u66 :: u67 :: u68 :: u69 :: u70 :: u71 :: u72 :: u73 :: u74 :: u75 :: u76 :: u77 :: u78 :: u79 :: u80 :: u81 :: u82 :: u83 :: u84 :: u85 :: u86 :: u87 :: u88 :: u89 :: u90 :: u91 :: u92 :: u93 :: u94 :: u95 :: u96 :: u97 :: u98 :: u99 :: u100 :: u101 :: u102 :: u103 :: u104 :: u105 :: u106 :: u107 :: u108 :: u109 :: u110 :: u111 :: u112 :: u113 :: u114 :: u115 :: u116 :: u117 :: u118 :: u119 :: u120 :: u121 :: u122 :: u123 :: u124 :: u125 :: u126 :: u127 :: u128 :: u129 :: u130 :: u131 :: []), []⟩ w := by
  refine wp_loop_ghost (fun gk a V => ∀ C : Prop, (∀ (u6 u11 u12 u13 u35 u36 u37 u38 u39 u40 u41 u42 u43 u44 u45 u46 u47 u48 u49 u50 u51 u52 u53 u54 u55 u56 u57 u58 u59 u60 u61 u62 u63 : Value) (g : Nat) (H : BH) (N : Bch), gk = m + 1 - g → (1 ≤ g ∧ g ≤ m + 1 ∧ KX w0 V b H N [(gl, .cells #[.bool true, .bool true, .bool true] 4 (0, 0))] ∧ TG N (g - 1)) → a = ⟨List.toArray ((.int .i64 ((m : Nat) : Int)) :: u1 :: u2 :: u3 :: u4 :: u5 :: u6 :: (.pointer (some ⟨b, 0, none⟩)) :: u8 :: (.slice (some ⟨gl, 0, none⟩) 3 3) :: (.int .i64 ((g : Nat) : Int)) :: u11 :: u12 :: u13 :: u14 :: u15 :: u16 :: u17 :: u18 :: u19 :: u20 :: u21 :: u22 :: u23 :: u24 :: u25 :: u26 :: u27 :: u28 :: u29 :: u30 :: u31 :: u32 :: u33 :: u34 :: u35 :: u36 :: u37 :: u38 :: u39 :: u40 :: u41 :: u42 :: u43 :: u44 :: u45 :: u46 :: u47 :: u48 :: u49 :: u50 :: u51 :: u52 :: u53 :: u54 :: u55 :: u56 :: u57 :: u58 :: u59 :: u60 :: u61 :: u62 :: u63 :: u64 :: u65 :: u66 :: u67 :: u68 :: u69 :: u70 :: u71 :: u72 :: u73 :: u74 :: u75 :: u76 :: u77 :: u78 :: u79 :: u80 :: u81 :: u82 :: u83 :: u84 :: u85 :: u86 :: u87 :: u88 :: u89 :: u90 :: u91 :: u92 :: u93 :: u94 :: u95 :: u96 :: u97 :: u98 :: u99 :: u100 :: u101 :: u102 :: u103 :: u104 :: u105 :: u106 :: u107 :: u108 :: u109 :: u110 :: u111 :: u112 :: u113 :: u114 :: u115 :: u116 :: u117 :: u118 :: u119 :: u120 :: u121 :: u122 :: u123 :: u124 :: u125 :: u126 :: u127 :: u128 :: u129 :: u130 :: u131 :: []), []⟩ → C) → C) (m + 1 - 1) ?_ ?_
  · intro C hC
    exact hC _ _ _ _ _ _ _ _ _ _ _ _ _ _ _ _ _ _ _ _ _ _ _ _ _ _ _ _ _ _ _ _ _ (1) (H0) (N0) rfl hI rfl
  · intro gk a V hI'
    refine hI' _ ?_
    intro u6 u11 u12 u13 u35 u36 u37 u38 u39 u40 u41 u42 u43 u44 u45 u46 u47 u48 u49 u50 u51 u52 u53 u54 u55 u56 u57 u58 u59 u60 u61 u62 u63 g H N hk hinv ha
    subst ha
    subst hk
    refine stAb _ _ _ _ _ _ _ _ _ _ _ _ _ _ _ _ _ _ _ _ _ _ _ _ _ _ _ _ _ _ _ _ _ _ _ _ _ _ _ _ _ _ _ _ _ _ _ _ _ _ _ _ _ _ _ _ _ _ _ _ _ _ _ _ _ _ _ _ _ _ _ _ _ _ _ _ _ _ _ _ _ _ _ _ _ _ _ _ _ _ _ _ _ _ _ _ _ _ _ _ _ _ _ _ _ _ _ _ _ _ _ _ _ _ _ _ _ _ _ _ _ _ _ _ _ _ _ _ _ _ ht hm hinv (fun v6 v11 v12 v13 v35 v36 v37 v38 v39 v40 v41 v42 v43 v44 v45 v46 v47 v48 v49 v50 v51 v52 v53 v54 v55 v56 v57 v58 v59 v60 v61 v62 v63 H2 N2 V2 h2 hm => ?_) (fun v6 v11 v12 v13 v35 v36 v37 v38 v39 v40 v41 v42 v43 v44 v45 v46 v47 v48 v49 v50 v51 v52 v53 v54 v55 v56 v57 v58 v59 v60 v61 v62 v63 hx => hX v6 v11 v12 v13 v35 v36 v37 v38 v39 v40 v41 v42 v43 v44 v45 v46 v47 v48 v49 v50 v51 v52 v53 v54 v55 v56 v57 v58 v59 v60 v61 v62 v63 g H N V hinv hx)
    refine ⟨_, hm, fun C hC => ?_⟩
    exact hC v6 v11 v12 v13 v35 v36 v37 v38 v39 v40 v41 v42 v43 v44 v45 v46 v47 v48 v49 v50 v51 v52 v53 v54 v55 v56 v57 v58 v59 v60 v61 v62 v63 ((g + 1)) (H2) (N2) rfl h2 rfl
set_option maxRecDepth 100000 in
set_option maxHeartbeats 3200000 in
theorem stBb {w0 : World} {b sl k : Nat} {sp : Int} {all : Bool} {N : Bch} {K0 : List (Nat × Obj)} {d : Nat} {H : BH} {M : Bch} {w : World} (u0 u3 u4 u5 u6 u8 u9 u10 u11 u12 u13 u17 u18 u19 u20 u21 u22 u23 u24 u25 u26 u27 u28 u29 u30 u31 u32 u33 u34 u35 u36 u37 u38 u39 u40 u41 u42 u43 u44 u45 u46 u47 u48 u49 u50 u51 u52 u53 u54 u55 u56 u57 u58 u59 u60 u61 u62 u63 u64 u65 u66 u67 u68 u69 u70 u71 u72 u73 u74 u75 u76 u77 u78 u79 u80 u81 u82 u83 u84 u85 u86 u87 u88 u89 u90 u91 u92 u93 u94 u95 u96 u97 u98 u99 u100 u101 u102 u103 u104 u105 u106 u107 u108 u109 u110 u111 u112 u113 u114 u115 u116 u117 u118 u119 u120 u121 u122 u123 u124 u125 u126 u127 u128 u129 u130 u131 : Value) (K : Act → World → Prop) (Q0 : Exit → Act → World → Prop) (hsp : (-9223372036854775808 ≤ sp ∧ sp ≤ 9223372036854775807)) (hn3 : N.n = 3) (hsl : sl < 2) (hk3 : k < 3) (hf : ∀ j, j < 3 → (N.D j).f = false) (hps : ∀ j, j < N.n → (N.D j).ps = []) (hI : (d ≤ 3 ∧ KX w0 w b H M K0 ∧ DG N M all k sl (sectorB (wrap64 (wrap64 (sp * 2) + 1))) d))
    (hK : ∀ (v71 v72 v73 v74 v75 v76 v77 v78 v79 v80 v81 v82 v83 v84 v85 v86 v87 v88 : Value) (H2 : BH) (M2 : Bch) (V : World), ((d + 1) ≤ 3 ∧ KX w0 V b H2 M2 K0 ∧ DG N M2 all k sl (sectorB (wrap64 (wrap64 (sp * 2) + 1))) (d + 1)) → 3 - (d + 1) < 3 - d → K ⟨List.toArray (u0 :: (.int .i64 sp) :: (.bool all) :: u3 :: u4 :: u5 :: u6 :: (.pointer (some ⟨b, 0, none⟩)) :: u8 :: u9 :: u10 :: u11 :: u12 :: u13 :: (.int .i64 ((sl : Nat) : Int)) :: (.int .i64 ((k : Nat) : Int)) :: (.int .i64 (((d + 1) : Nat) : Int)) :: u17 :: u18 :: u19 :: u20 :: u21 :: u22 :: u23 :: u24 :: u25 :: u26 :: u27 :: u28 :: u29 :: u30 :: u31 :: u32 :: u33 :: u34 :: u35 :: u36 :: u37 :: u38 :: u39 :: u40 :: u41 :: u42 :: u43 :: u44 :: u45 :: u46 :: u47 :: u48 :: u49 :: u50 :: u51 :: u52 :: u53 :: u54 :: u55 :: u56 :: u57 :: u58 :: u59 :: u60 :: u61 :: u62 :: u63 :: u64 :: u65 :: u66 :: u67 :: u68 :: u69 :: u70 :: v71 :: v72 :: v73 :: v74 :: v75 :: v76 :: v77 :: v78 :: v79 :: v80 :: v81 :: v82 :: v83 :: v84 :: v85 :: v86 :: v87 :: v88 :: u89 :: u90 :: u91 :: u92 :: u93 :: u94 :: u95 :: u96 :: u97 :: u98 :: u99 :: u100 :: u101 :: u102 :: u103 :: u104 :: u105 :: u106 :: u107 :: u108 :: u109 :: u110 :: u111 :: u112 :: u113 :: u114 :: u115 :: u116 :: u117 :: u118 :: u119 :: u120 :: u121 :: u122 :: u123 :: u124 :: u125 :: u126 :: u127 :: u128 :: u129 :: u130 :: u131 :: []), []⟩ V)
    (hX : ∀ (v71 v72 v73 v74 v75 v76 v77 v78 v79 v80 v81 v82 v83 v84 v85 v86 v87 v88 : Value), (d = 3) → Q0 (.exit 2) ⟨List.toArray (u0 :: (.int .i64 sp) :: (.bool all) :: u3 :: u4 :: u5 :: u6 :: (.pointer (some ⟨b, 0, none⟩)) :: u8 :: u9 :: u10 :: u11 :: u12 :: u13 :: (.int .i64 ((sl : Nat) : Int)) :: (.int .i64 ((k : Nat) : Int)) :: (.int .i64 ((d : Nat) : Int)) :: u17 :: u18 :: u19 :: u20 :: u21 :: u22 :: u23 :: u24 :: u25 :: u26 :: u27 :: u28 :: u29 :: u30 :: u31 :: u32 :: u33 :: u34 :: u35 :: u36 :: u37 :: u38 :: u39 :: u40 :: u41 :: u42 :: u43 :: u44 :: u45 :: u46 :: u47 :: u48 :: u49 :: u50 :: u51 :: u52 :: u53 :: u54 :: u55 :: u56 :: u57 :: u58 :: u59 :: u60 :: u61 :: u62 :: u63 :: u64 :: u65 :: u66 :: u67 :: u68 :: u69 :: u70 :: v71 :: v72 :: v73 :: v74 :: v75 :: v76 :: v77 :: v78 :: v79 :: v80 :: v81 :: v82 :: v83 :: v84 :: v85 :: v86 :: v87 :: v88 :: u89 :: u90 :: u91 :: u92 :: u93 :: u94 :: u95 :: u96 :: u97 :: u98 :: u99 :: u100 :: u101 :: u102 :: u103 :: u104 :: u105 :: u106 :: u107 :: u108 :: u109 :: u110 :: u111 :: u112 :: u113 :: u114 :: u115 :: u116 :: u117 :: u118 :: u119 :: u120 :: u121 :: u122 :: u123 :: u124 :: u125 :: u126 :: u127 :: u128 :: u129 :: u130 :: u131 :: []), []⟩ w) :
    Code.wp Tryd.prog (sub [1, 1, 1, 1, 1, 1, 1, 1, 0, 1, 0, 0] codeST) (Exit.then K Q0) ⟨List.toArray (u0 :: (.int .i64 sp) :: (.bool all) :: u3 :: u4 :: u5 :: u6 :: (.pointer (some ⟨b, 0, none⟩)) :: u8 :: u9 :: u10 :: u11 :: u12 :: u13 :: (.int .i64 ((sl : Nat) : Int)) :: (.int .i64 ((k : Nat) : Int)) :: (.int .i64 ((d : Nat) : Int)) :: u17 :: u18 :: u19 :: u20 :: u21 :: u22 :: u23 :: u24 :: u25 :: u26 :: u27 :: u28 :: u29 :: u30 :: u31 :: u32 :: u33 :: u34 :: u35 :: u36 :: u37 :: u38 :: u39 :: u40 :: u41 :: u42 :: u43 :: u44 :: u45 :: u46 :: u47 :: u48 :: u49 :: u50 :: u51 :: u52 :: u53 :: u54 :: u55 :: u56 :: u57 :: u58 :: u59 :: u60 :: u61 :: u62 :: u63 :: u64 :: u65 :: u66 :: u67 :: u68 :: u69 :: u70 :: u71 :: u72 :: u73 :: u74 :: u75 :: u76 :: u77 :: u78 :: u79 :: u80 :: u81 :: u82 :: u83 :: u84 :: u85 :: u86 :: u87 :: u88 :: u89 :: u90 :: u91 :: u92 :: u93 :: u94 :: u95 :: u96 :: u97 :: u98 :: u99 :: u100 :: u101 :: u102 :: u103 :: u104 :: u105 :: u106 :: u107 :: u108 :: u109 :: u110 :: u111 :: u112 :: u113 :: u114 :: u115 :: u116 :: u117 :: u118 :: u119 :: u120 :: u121 :: u122 :: u123 :: u124 :: u125 :: u126 :: u127 :: u128 :: u129 :: u130 :: u131 :: []), []⟩ w := by
  have HK := Lib.hid hK
  have HX := Lib.hid hX
  clear hK hX
  conv => arg 2; whnf
  obtain ⟨hd3, hK, hD⟩ := hI
  by_cases hlt : d < 3
  · have HK1 := Lib.hid hK
    have HD := Lib.hid hD
    have Hf := Lib.hid hf
    have HP : Hid (∀ i, i < M.n → (M.D i).ps.length ≤ 1999990) := fun i hi => by
      have h1 := hD.ps i (by rw [← hD.n]; exact hi)
      rw [hps i (by rw [← hD.n]; exact hi)] at h1
      exact Nat.le_trans h1 (Nat.zero_le _)
    have d0 : (0 : Int) ≤ (d : Int) := by omega
    have d1 : (d : Int) < 3 := by omega
    have Hsp := Lib.hid hsp
    clear hK hD HX hf hps
    cases all with
    | true =>
      go_wp2_with fail
      refine (sector_any (wrap64 (wrap64 (sp * 2) + 1)) _ (by unfold wrap64; omega)).mono ?_
      rintro e w1 ⟨g1, rfl, ho1, hb1⟩
      have K1 := Lib.hid (HK1.out.below hb1)
      have R1 := Lib.hid ho1.rdS.1
      clear ho1 hb1
      go_wp2_with fail
      refine (kx_damage K1.out (d : Int) (sl : Int) (sectorB (wrap64 (wrap64 (sp * 2) + 1))) (some ⟨g1, 0, none⟩) 32 32 (sectorB_len _).symm ⟨by omega, by omega⟩ ⟨by omega, by omega⟩ R1.out HP.out).mono ?_
      rintro e w2 ⟨rfl, H2, k2⟩
      go_wp2_with fail
      exact HK.out _ _ _ _ _ _ _ _ _ _ _ _ _ _ _ _ _ _ H2 _ _ ⟨by omega, k2, dg_do HD.out (.inl rfl) (by rw [hn3]; omega) (by omega) (sectorB_len _) (Hf.out d (by omega))⟩ (by omega)
    | false =>
      by_cases hdk : d = k
      · have hb : ((d : Int) == (k : Int)) = true := by rw [beq_iff_eq]; omega
        have Hdk := Lib.hid hdk
        clear hdk
        go_wp2_with fail
        refine (sector_any (wrap64 (wrap64 (sp * 2) + 1)) _ (by unfold wrap64; omega)).mono ?_
        rintro e w1 ⟨g1, rfl, ho1, hb1⟩
        have K1 := Lib.hid (HK1.out.below hb1)
        have R1 := Lib.hid ho1.rdS.1
        clear ho1 hb1
        go_wp2_with fail
        refine (kx_damage K1.out (d : Int) (sl : Int) (sectorB (wrap64 (wrap64 (sp * 2) + 1))) (some ⟨g1, 0, none⟩) 32 32 (sectorB_len _).symm ⟨by omega, by omega⟩ ⟨by omega, by omega⟩ R1.out HP.out).mono ?_
        rintro e w2 ⟨rfl, H2, k2⟩
        go_wp2_with fail
        exact HK.out _ _ _ _ _ _ _ _ _ _ _ _ _ _ _ _ _ _ H2 _ _ ⟨by omega, k2, dg_do HD.out (.inr Hdk.out) (by rw [hn3]; omega) (by omega) (sectorB_len _) (Hf.out d (by omega))⟩ (by omega)
      · have hb : ((d : Int) == (k : Int)) = false := by rw [beq_eq_false_iff_ne]; omega
        have Hdk := Lib.hid hdk
        clear hdk
        go_wp2_with fail
        exact HK.out _ _ _ _ _ _ _ _ _ _ _ _ _ _ _ _ _ _ H M _ ⟨by omega, HK1.out, dg_skip HD.out (fun h => by rcases h with h | h; cases h; exact Hdk.out h)⟩ (by omega)
  · have i1 : ¬ (d : Int) < 3 := by omega
    have hde : d = 3 := by omega
    have Hde := Lib.hid hde
    clear HK hde
    go_wp2_with fail
    exact HX.out _ _ _ _ _ _ _ _ _ _ _ _ _ _ _ _ _ _ Hde.out
set_option maxRecDepth 100000 in
set_option maxHeartbeats 3200000 in
theorem stB {w0 : World} {b sl k : Nat} {sp : Int} {all : Bool} {N : Bch} {K0 : List (Nat × Obj)} {H0 : BH} {M0 : Bch} {w : World} (u0 u3 u4 u5 u6 u8 u9 u10 u11 u12 u13 u17 u18 u19 u20 u21 u22 u23 u24 u25 u26 u27 u28 u29 u30 u31 u32 u33 u34 u35 u36 u37 u38 u39 u40 u41 u42 u43 u44 u45 u46 u47 u48 u49 u50 u51 u52 u53 u54 u55 u56 u57 u58 u59 u60 u61 u62 u63 u64 u65 u66 u67 u68 u69 u70 u71 u72 u73 u74 u75 u76 u77 u78 u79 u80 u81 u82 u83 u84 u85 u86 u87 u88 u89 u90 u91 u92 u93 u94 u95 u96 u97 u98 u99 u100 u101 u102 u103 u104 u105 u106 u107 u108 u109 u110 u111 u112 u113 u114 u115 u116 u117 u118 u119 u120 u121 u122 u123 u124 u125 u126 u127 u128 u129 u130 u131 : Value) (Q : Exit → Act → World → Prop) (hsp : (-9223372036854775808 ≤ sp ∧ sp ≤ 9223372036854775807)) (hn3 : N.n = 3) (hsl : sl < 2) (hk3 : k < 3) (hf : ∀ j, j < 3 → (N.D j).f = false) (hps : ∀ j, j < N.n → (N.D j).ps = []) (hI : (0 ≤ 3 ∧ KX w0 w b H0 M0 K0 ∧ DG N M0 all k sl (sectorB (wrap64 (wrap64 (sp * 2) + 1))) 0))
    (hX : ∀ (v71 v72 v73 v74 v75 v76 v77 v78 v79 v80 v81 v82 v83 v84 v85 v86 v87 v88 : Value) (d : Nat) (H : BH) (M : Bch) (V : World), (d ≤ 3 ∧ KX w0 V b H M K0 ∧ DG N M all k sl (sectorB (wrap64 (wrap64 (sp * 2) + 1))) d) → (d = 3) → Q (.exit 2) ⟨List.toArray (u0 :: (.int .i64 sp) :: (.bool all) :: u3 :: u4 :: u5 :: u6 :: (.pointer (some ⟨b, 0, none⟩)) :: u8 :: u9 :: u10 :: u11 :: u12 :: u13 :: (.int .i64 ((sl : Nat) : Int)) :: (.int .i64 ((k : Nat) : Int)) :: (.int .i64 ((d : Nat) : Int)) :: u17 :: u18 :: u19 :: u20 :: u21 :: u22 :: u23 :: u24 :: u25 :: u26 :: u27 :: u28 :: u29 :: u30 :: u31 :: u32 :: u33 :: u34 :: u35 :: u36 :: u37 :: u38 :: u39 :: u40 :: u41 :: u42 :: u43 :: u44 :: u45 :: u46 :: u47 :: u48 :: u49 :: u50 :: u51 :: u52 :: u53 :: u54 :: u55 :: u56 :: u57 :: u58 :: u59 :: u60 :: u61 :: u62 :: u63 :: u64 :: u65 :: u66 :: u67 :: u68 :: u69 :: u70 :: v71 :: v72 :: v73 :: v74 :: v75 :: v76 :: v77 :: v78 :: v79 :: v80 :: v81 :: v82 :: v83 :: v84 :: v85 :: v86 :: v87 :: v88 :: u89 :: u90 :: u91 :: u92 :: u93 :: u94 :: u95 :: u96 :: u97 :: u98 :: u99 :: u100 :: u101 :: u102 :: u103 :: u104 :: u105 :: u106 :: u107 :: u108 :: u109 :: u110 :: u111 :: u112 :: u113 :: u114 :: u115 :: u116 :: u117 :: u118 :: u119 :: u120 :: u121 :: u122 :: u123 :: u124 :: u125 :: u126 :: u127 :: u128 :: u129 :: u130 :: u131 :: []), []⟩ V) :
    Code.wp Tryd.prog (.loop (sub [1, 1, 1, 1, 1, 1, 1, 1, 0, 1, 0, 0] codeST)) Q ⟨List.toArray (u0 :: (.int .i64 sp) :: (.bool all) :: u3 :: u4 :: u5 :: u6 :: (.pointer (some ⟨b, 0, none⟩)) :: u8 :: u9 :: u10 :: u11 :: u12 :: u13 :: (.int .i64 ((sl : Nat) : Int)) :: (.int .i64 ((k : Nat) : Int)) :: (.int .i64 ((0 : Nat) : Int)) :: u17 :: u18 :: u19 :: u20 :: u21 :: u22 :: u23 :: u24 :: u25 :: u26 :: u27 :: u28 :: u29 :: u30 :: u31 :: u32 :: u33 :: u34 :: u35 :: u36 :: u37 :: u38 :: u39 :: u40 :: u41 :: u42 :: u43 :: u44 :: u45 :: u46 :: u47 :: u48 :: u49 :: u50 :: u51 :: u52 :: u53 :: u54 :: u55 :: u56 :: u57 :: u58 :: u59 :: u60 :: u61 :: u62 :: u63 :: u64 :: u65 :: u66 :: u67 :: u68 :: u69 :: u70 :: u71 :: u72 :: u73 :: u74 :: u75 :: u76 :: u77 :: u78 :: u79 :: u80 :: u81 :: u82 :: u83 :: u84 :: u85 :: u86 :: u87 :: u88 :: u89 :: u90 :: u91 :: u92 :: u93 :: u94 :: u95 :: u96 :: u97 :: u98 :: u99 :: u100 :: u101 :: u102 :: u103 :: u104 :: u105 :: u106 :: u107 :: u108 :: u109 :: u110 :: u111 :: u112 :: u113 :: u114 :: u115 :: u116 :: u117 :: u118 :: u119 :: u120 :: u121 :: u122 :: u123 :: u124 :: u125 :: u126 :: u127 :: u128 :: u129 :: u130 :: u131 :: []), []⟩ w := by
  refine wp_loop_ghost (fun gk a V => ∀ C : Prop, (∀ (u71 u72 u73 u74 u75 u76 u77 u78 u79 u80 u81 u82 u83 u84 u85 u86 u87 u88 : Value) (d : Nat) (H : BH) (M : Bch), gk = 3 - d → (d ≤ 3 ∧ KX w0 V b H M K0 ∧ DG N M all k sl (sectorB (wrap64 (wrap64 (sp * 2) + 1))) d) → a = ⟨List.toArray (u0 :: (.int .i64 sp) :: (.bool all) :: u3 :: u4 :: u5 :: u6 :: (.pointer (some ⟨b, 0, none⟩)) :: u8 :: u9 :: u10 :: u11 :: u12 :: u13 :: (.int .i64 ((sl : Nat) : Int)) :: (.int .i64 ((k : Nat) : Int)) :: (.int .i64 ((d : Nat) : Int)) :: u17 :: u18 :: u19 :: u20 :: u21 :: u22 :: u23 :: u24 :: u25 :: u26 :: u27 :: u28 :: u29 :: u30 :: u31 :: u32 :: u33 :: u34 :: u35 :: u36 :: u37 :: u38 :: u39 :: u40 :: u41 :: u42 :: u43 :: u44 :: u45 :: u46 :: u47 :: u48 :: u49 :: u50 :: u51 :: u52 :: u53 :: u54 :: u55 :: u56 :: u57 :: u58 :: u59 :: u60 :: u61 :: u62 :: u63 :: u64 :: u65 :: u66 :: u67 :: u68 :: u69 :: u70 :: u71 :: u72 :: u73 :: u74 :: u75 :: u76 :: u77 :: u78 :: u79 :: u80 :: u81 :: u82 :: u83 :: u84 :: u85 :: u86 :: u87 :: u88 :: u89 :: u90 :: u91 :: u92 :: u93 :: u94 :: u95 :: u96 :: u97 :: u98 :: u99 :: u100 :: u101 :: u102 :: u103 :: u104 :: u105 :: u106 :: u107 :: u108 :: u109 :: u110 :: u111 :: u112 :: u113 :: u114 :: u115 :: u116 :: u117 :: u118 :: u119 :: u120 :: u121 :: u122 :: u123 :: u124 :: u125 :: u126 :: u127 :: u128 :: u129 :: u130 :: u131 :: []), []⟩ → C) → C) (3 - 0) ?_ ?_
  · intro C hC
    exact hC _ _ _ _ _ _ _ _ _ _ _ _ _ _ _ _ _ _ (0) (H0) (M0) rfl hI rfl
  · intro gk a V hI'
    refine hI' _ ?_
    intro u71 u72 u73 u74 u75 u76 u77 u78 u79 u80 u81 u82 u83 u84 u85 u86 u87 u88 d H M hk hinv ha
    subst ha
    subst hk
    refine stBb _ _ _ _ _ _ _ _ _ _ _ _ _ _ _ _ _ _ _ _ _ _ _ _ _ _ _ _ _ _ _ _ _ _ _ _ _ _ _ _ _ _ _ _ _ _ _ _ _ _ _ _ _ _ _ _ _ _ _ _ _ _ _ _ _ _ _ _ _ _ _ _ _ _ _ _ _ _ _ _ _ _ _ _ _ _ _ _ _ _ _ _ _ _ _ _ _ _ _ _ _ _ _ _ _ _ _ _ _ _ _ _ _ _ _ _ _ _ _ _ _ _ _ _ _ _ _ _ hsp hn3 hsl hk3 hf hps hinv (fun v71 v72 v73 v74 v75 v76 v77 v78 v79 v80 v81 v82 v83 v84 v85 v86 v87 v88 H2 M2 V2 h2 hm => ?_) (fun v71 v72 v73 v74 v75 v76 v77 v78 v79 v80 v81 v82 v83 v84 v85 v86 v87 v88 hx => hX v71 v72 v73 v74 v75 v76 v77 v78 v79 v80 v81 v82 v83 v84 v85 v86 v87 v88 d H M V hinv hx)
    refine ⟨_, hm, fun C hC => ?_⟩
    exact hC v71 v72 v73 v74 v75 v76 v77 v78 v79 v80 v81 v82 v83 v84 v85 v86 v87 v88 ((d + 1)) (H2) (M2) rfl h2 rfl
end Go.Proofs.YtiipdhmfdgbmiaaDoor
