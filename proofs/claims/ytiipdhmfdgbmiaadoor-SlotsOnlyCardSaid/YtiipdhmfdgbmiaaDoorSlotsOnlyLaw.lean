/- SlotsOnly walked. -/
import Derived.Test.YtiipdhmfdgbmiaaDoorSlotsOnlyLoops
import Derived.Test.YtiipdhmfdgbmiaaDoorTbau
set_option linter.unusedVariables false
set_option linter.unusedSimpArgs false
namespace Go.Proofs.YtiipdhmfdgbmiaaDoor
open Go.RowKit

attribute [local go_sem ↓] su_eql su_neq
set_option maxRecDepth 100000 in
set_option maxHeartbeats 8000000 in
theorem slotsonly (gen n alive : Int) (A : Option Addr) (l : List Int) (cl : Nat) (w : World) (hgen : (-9223372036854775808 ≤ gen ∧ gen ≤ 9223372036854775807)) (hn : (-9223372036854775808 ≤ n ∧ n ≤ 9223372036854775807)) (hal : (-9223372036854775808 ≤ alive ∧ alive ≤ 9223372036854775807)) (_ : l.length ≤ cl) (hr : RdZ w w.heap.size A l) (ht : TabOk w) :
    Calls Tryd.prog 6 #[.int .i64 gen, .int .i64 n, .int .i64 alive, .slice A l.length cl] w fun e w' => e = .returned (.bool true) ∧ Below w.heap.size w w' := by
  have hpn := ptr_eq
  have Ht := Lib.hid ht
  have Hr := Lib.hid hr
  have CN := Lib.hid (bp_new 4 w w (Below.refl _ _) (by omega))
  have bz := withinI_bd gen 5000 (by omega)
  have WN := Lib.hid (fun V => within_any gen 5000 V hgen (by omega))
  have CL := Lib.hid (fun V => live_any alive 4 V hal (by omega))
  generalize withinI gen 5000 = z at bz WN
  obtain ⟨ge, hge⟩ : ∃ ge, ge = 1 + z := ⟨_, rfl⟩
  have hg5 : 1 ≤ ge ∧ ge ≤ 5000 := by omega
  have ez : (1 : Int) + z = ge := hge.symm
  have ew1 : wrap64 ge = ge := by unfold wrap64; omega
  have ew2 : IntKind.i64.wrap ge = ge := by rw [IntKind.wrap_i64]; omega
  have CO := Lib.hid (fun V => one_any ge n V hn)
  have Hok := Lib.hid (oneS_ok n (gen := ge) (by omega))
  have H64 := Lib.hid (oneS_64 n (gen := ge) (by omega))
  have hgg : (oneS ge n).g = ge := rfl
  have hq := suEq_refl (oneS ge n)
  generalize hsg : oneS ge n = s at *
  have Hs := Lib.hid hsg.symm
  have Hgg := Lib.hid hgg
  have Hlen := Lib.hid (liveL_len alive 4)
  have Hsome := Lib.hid (show ∃ j, j < 4 ∧ (liveL alive 4).getD j false = true from by
    obtain ⟨j, h1, h2⟩ := live_some alive
    exact ⟨j, h1, by rw [liveL_get _ h1]; exact h2⟩)
  generalize liveL alive 4 = lv at CL Hlen Hsome
  clear ht hr hgen hn hal hge hsg hgg
  go_enter Tryd.func6, Tryd.ntmps6
  go_wp2_with fail
  refine CN.out.mono ?_
  rintro e w1 ⟨b, H, rfl, hp, _, _⟩
  unfold ptr
  have K1 : Hid (KX w w1 b H (Bch.new 4) []) := ⟨hp, fun p hp => by cases hp⟩
  have Q1 := Lib.hid qg_new
  clear hp CN
  go_wp2_with fail
  refine soI (w0 := w) (b := b) (cl := cl) (A := A) (l := l) _ _ _ _ _ _ _ _ _ _ _ _ _ _ _ _ _ _ _ _ _ _ _ _ _ _ _ _ _ _ _ _ _ _ _ _ _ _ _ _ _ _ _ _ _ _ _ _ _ _ _ _ _ _ _ _ _ _ _ _ _ _ _ _ _ _ _ _ _ _ _ _ _ _ _ _ _ _ _ _ _ _ _ _ _ _ _ _ _ _ _ _ _ _ _ _ _ _ _ _ _ _ _ _ _ _ _ _ _ _ _ _ _ _ _ _ _ _ _ _ _ _ _ _ _ _ _ _ _ _ _ _ _ _ _ _ _ _ _ _ _ _ _ _ _ _ _ _ _ _ _ _ _ _ _ _ _ _ _ Hr.out ⟨Nat.zero_le _, K1.out, Q1.out⟩ (fun v12 v36 v37 v38 v39 v40 v41 v42 v43 v44 v45 v46 v47 v48 v49 v50 v51 v52 v53 v54 v55 v56 i H3 N3 V hI hx => ?_)
  obtain ⟨_, hK, hQ⟩ := hI
  subst hx
  have K2 := Lib.hid hK
  have Q2 := Lib.hid hQ
  clear hK hQ K1 Q1
  go_wp2_with fail
  refine (bch_clone_any _ b H3 N3 V K2.out.bp.at' (fun i hi => by rw [Q2.out.ps i hi]; exact Nat.zero_le _)).mono ?_
  rintro e w3 ⟨b2, H2, rfl, at2, hb3⟩
  unfold ptr
  obtain ⟨L, hL, hLW⟩ := bat_list at2
  have HLW := Lib.hid hLW
  have K4 := Lib.hid ((K2.out.below hb3).join (L := L) fun p hp => ⟨(hL p hp).1, fun e => by have h1 := (at2.flt (hL p hp).2).1; have h2 := (K2.out.bp.at'.flt e).2; omega, Nat.le_trans K2.out.bp.bel.size (at2.flt (hL p hp).2).1⟩)
  have HVz := Lib.hid K2.out.bp.bel.size
  clear hL hLW at2 hb3 K2
  go_wp2_with (go_at_call 8; refine (WN.out _).mono ?_; rintro e w4 ⟨rfl, rfl⟩)
  refine (CL.out _).mono ?_
  rintro e w5 ⟨gl, rfl, hrow, hgl, hb5⟩
  have K5 := Lib.hid ((K4.out.below hb5).old hrow (K4.out.off hgl) (Nat.le_trans K4.out.bp.bel.size hgl))
  clear hrow hgl hb5 K4 CL WN
  go_wp2_with fail
  refine (CO.out _).mono ?_
  rintro e w6 ⟨s6, hs6, rfl, hb6⟩
  obtain rfl : s6 = s := hs6
  have K6 := Lib.hid (K5.out.below hb6)
  clear hb6 K5
  go_wp2_with fail
  refine (kx_store K6.out s6 Hok.out H64.out Ht.out Q2.out.dn Q2.out.lf lv gl 4 4 lv 4 (lv.map Value.bool).toArray 4 (0, 0) (List.mem_cons_self ..) rfl (List.take_of_length_le (by rw [Hlen.out]; exact Nat.le_refl 4)).symm (by rw [Hlen.out]; decide) Hlen.out.symm Q2.out.ps (by rw [Q2.out.done]; decide)).mono ?_
  rintro e w7 ⟨rfl, H7, M, k7, st7⟩
  have K7 := Lib.hid k7
  have St := Lib.hid st7
  have HW : Hid (∀ V' : World, (∀ p ∈ (gl, Obj.cells (lv.map Value.bool).toArray 4 (0, 0)) :: (L ++ []), V'.heap[p.1]? = some p.2) → BAt V' w.heap.size b2 H2 N3) := fun V' h => (HLW.out V' fun p hp => h p (List.mem_cons_of_mem _ (List.mem_append_left _ hp))).mono HVz.out
  clear k7 st7 K6 HLW
  go_wp2_with fail
  refine soD (w0 := w) (b := b) (b2 := b2) (gl := gl) (gen := ge) (s := s6) (lv := lv) (N := N3) (M := M) _ _ _ _ _ _ _ _ _ _ _ _ _ _ _ _ _ _ _ _ _ _ _ _ _ _ _ _ _ _ _ _ _ _ _ _ _ _ _ _ _ _ _ _ _ _ _ _ _ _ _ _ _ _ _ _ _ _ _ _ _ _ _ _ _ _ _ _ _ _ _ _ _ _ _ _ _ _ _ _ _ _ _ _ _ _ _ _ _ _ _ _ _ _ _ _ _ _ _ _ _ _ _ _ _ _ _ _ _ _ _ _ _ _ _ _ _ _ _ _ _ _ _ _ _ _ _ _ _ _ _ _ _ _ _ _ _ _ _ _ _ _ _ _ _ _ _ _ _ _ _ _ _ _ _ _ _ Q2.out St.out Hgg.out hg5 (List.mem_cons_self ..) Hlen.out HW.out ⟨Nat.zero_le _, K7.out⟩ (fun v8 v16 v17 v18 v19 v20 v21 v73 v74 v75 v76 v77 v78 v79 v80 v81 v82 v83 v84 v85 v86 v87 v88 v89 v90 v91 v92 v93 v94 v95 v96 v97 v98 v99 v100 v101 v102 v103 v104 v105 v106 v107 v108 v109 v110 v111 v112 v113 v114 v115 v116 v117 v118 v119 v120 v121 v122 v123 v124 d V2 hI hx => ?_)
  have K8 := Lib.hid hI.2
  clear hI hx K7
  have B8 := Lib.hid (only_best Q2.out St.out Hok.out Hsome.out)
  clear HW St Q2
  go_wp2_with fail
  have CB := kx_best K8.out Ht.out
  rw [B8.out.1, B8.out.2.1] at CB
  refine CB.mono ?_
  rintro e w7 ⟨v7, s7, hs7, rfl, ho7, k7, _⟩
  obtain rfl : s7 = s6 := hs7
  obtain ⟨gh, cap, rfl, hcap, _, hghl, hch⟩ := ho7.form (by rw [B8.out.2.2.1]; decide)
  rw [B8.out.2.2.1] at hcap hch ⊢
  have Hhas := Lib.hid (show ∀ k, k < 4 → w7.cell? ⟨gh, k, none⟩ = some (.bool (lv.getD k false)) from fun k hk => (hch k hk).trans (by rw [B8.out.2.2.2 k hk]))
  have K9 := Lib.hid k7
  clear CB ho7 k7 hch B8 K8
  go_wp2_with (first
    | (refine wpList_store_blk rfl 32 _ _ (by rfl) w7.heap.size 0 (.agg (suL s7).toArray) (by rfl) (by rfl) (suL suZ) 32 (heap_alloc_new _ _) (suL s7) rfl 11 rfl (by kernel_rfl) (Nat.le_refl 11) (suL_one s7) (suL s7) (by rfl) ?_; intro w8 h8 g8
       have F8 := Lib.hid (K9.out.box _ g8 h8)
       have b8 : Below w7.heap.size w7 w8 := (below1 w7 _).grown g8 (by simp) (fun j e => by injection e with e; omega)
       have S8 : SS w8 w8.heap.size w7.heap.size s7 w8 := ⟨sat_block h8, Below.refl _ _, (Array.getElem?_eq_some_iff.1 h8).1⟩
       have Hhas8 := Lib.hid (show (∀ k, k < 4 → w8.cell? ⟨gh, k, none⟩ = some (.bool (lv.getD k false))) ∧ gh < w8.heap.size from ⟨fun k hk => (b8.cell (p := ⟨gh, k, none⟩) hghl).trans (Hhas.out k hk), Nat.lt_of_lt_of_le hghl b8.size⟩)
       clear h8 g8 b8))
  refine wp_region_noPanic (region_ord 14 [] (fun V => SS w8 w8.heap.size w7.heap.size s7 V) (by kernel_rfl) (by kernel_rfl) (fun _ _ _ _ _ h => h) fun R => ?_)
  change anyI _ _ _ _ _ _ 14 _ _ w8.drew
  have HS0 := Lib.hid (show (fun V => SS w8 w8.heap.size w7.heap.size s7 V) w8.drew from S8.drew)
  refine' anyI_take R 0 rfl (v := ?_) (by kernel_rfl) (by rfl) (fun V hV => ?hy) HS0.out ?_
  case hy => ((try dsimp only at hV);  obtain ⟨⟨q0, q1, q2, q3, q4, q5, q6, q7, q8, q9, q10⟩, _, _⟩ := hV; go_simp; try with_reducible rfl)
  try simp only [Act.put, List.getElem_toArray, List.getElem_cons_succ, List.getElem_cons_zero, List.setIfInBounds_toArray, List.set_cons_zero, List.set_cons_succ]
  refine' anyI_take R 1 rfl (v := ?_) (by kernel_rfl) (by rfl) (fun V hV => ?hy) HS0.out ?_
  case hy => ((try dsimp only at hV);  obtain ⟨⟨q0, q1, q2, q3, q4, q5, q6, q7, q8, q9, q10⟩, _, _⟩ := hV; go_simp; try with_reducible rfl)
  try simp only [Act.put, List.getElem_toArray, List.getElem_cons_succ, List.getElem_cons_zero, List.setIfInBounds_toArray, List.set_cons_zero, List.set_cons_succ]
  refine' anyI_take R 2 rfl (v := ?_) (by kernel_rfl) (by rfl) (fun V hV => ?hy) HS0.out ?_
  case hy => ((try dsimp only at hV);  obtain ⟨⟨q0, q1, q2, q3, q4, q5, q6, q7, q8, q9, q10⟩, _, _⟩ := hV; go_simp; try with_reducible rfl)
  try simp only [Act.put, List.getElem_toArray, List.getElem_cons_succ, List.getElem_cons_zero, List.setIfInBounds_toArray, List.set_cons_zero, List.set_cons_succ]
  refine' anyI_take R 3 rfl (v := ?_) (by kernel_rfl) (by rfl) (fun V hV => ?hy) HS0.out ?_
  case hy => ((try dsimp only at hV);  obtain ⟨⟨q0, q1, q2, q3, q4, q5, q6, q7, q8, q9, q10⟩, _, _⟩ := hV; go_simp; try with_reducible rfl)
  try simp only [Act.put, List.getElem_toArray, List.getElem_cons_succ, List.getElem_cons_zero, List.setIfInBounds_toArray, List.set_cons_zero, List.set_cons_succ]
  refine' anyI_take R 4 rfl (v := ?_) (by kernel_rfl) (by rfl) (fun V hV => ?hy) HS0.out ?_
  case hy => ((try dsimp only at hV);  obtain ⟨⟨q0, q1, q2, q3, q4, q5, q6, q7, q8, q9, q10⟩, _, _⟩ := hV; go_simp; try with_reducible rfl)
  try simp only [Act.put, List.getElem_toArray, List.getElem_cons_succ, List.getElem_cons_zero, List.setIfInBounds_toArray, List.set_cons_zero, List.set_cons_succ]
  refine' anyI_take R 5 rfl (v := ?_) (by kernel_rfl) (by rfl) (fun V hV => ?hy) HS0.out ?_
  case hy => ((try dsimp only at hV);  obtain ⟨⟨q0, q1, q2, q3, q4, q5, q6, q7, q8, q9, q10⟩, _, _⟩ := hV; go_simp; try with_reducible rfl)
  try simp only [Act.put, List.getElem_toArray, List.getElem_cons_succ, List.getElem_cons_zero, List.setIfInBounds_toArray, List.set_cons_zero, List.set_cons_succ]
  refine anyI_one 6 (by kernel_rfl) rfl ?_
  try simp only [List.getElem_toArray, List.getElem_cons_succ, List.getElem_cons_zero]
  refine opE_step ?_
  rw [if_pos (by rfl)]
  go_simp
  go_at_call 10
  refine (CO.out _).mono ?_
  rintro e w9 ⟨s9, hs9, rfl, hb9⟩
  obtain rfl : s9 = s7 := hs9
  replace HS0 := Lib.hid (SS.later HS0.out hb9)
  clear hb9
  dsimp only
  refine ⟨HS0.out, ?_⟩
  try simp only [Act.put, List.getElem_toArray, List.getElem_cons_succ, List.getElem_cons_zero, List.setIfInBounds_toArray, List.set_cons_zero, List.set_cons_succ]
  refine' anyI_take R 7 rfl (v := ?_) (by kernel_rfl) (by rfl) (fun V hV => ?hy) HS0.out ?_
  case hy => ((try dsimp only at hV);  obtain ⟨⟨q0, q1, q2, q3, q4, q5, q6, q7, q8, q9, q10⟩, _, _⟩ := hV; go_simp; try with_reducible rfl)
  try simp only [Act.put, List.getElem_toArray, List.getElem_cons_succ, List.getElem_cons_zero, List.setIfInBounds_toArray, List.set_cons_zero, List.set_cons_succ]
  refine' anyI_take R 8 rfl (v := ?_) (by kernel_rfl) (by rfl) (fun V hV => ?hy) HS0.out ?_
  case hy => ((try dsimp only at hV);  obtain ⟨⟨q0, q1, q2, q3, q4, q5, q6, q7, q8, q9, q10⟩, _, _⟩ := hV; go_simp; try with_reducible rfl)
  try simp only [Act.put, List.getElem_toArray, List.getElem_cons_succ, List.getElem_cons_zero, List.setIfInBounds_toArray, List.set_cons_zero, List.set_cons_succ]
  refine' anyI_take R 9 rfl (v := ?_) (by kernel_rfl) (by rfl) (fun V hV => ?hy) HS0.out ?_
  case hy => ((try dsimp only at hV);  obtain ⟨⟨q0, q1, q2, q3, q4, q5, q6, q7, q8, q9, q10⟩, _, _⟩ := hV; go_simp; try with_reducible rfl)
  try simp only [Act.put, List.getElem_toArray, List.getElem_cons_succ, List.getElem_cons_zero, List.setIfInBounds_toArray, List.set_cons_zero, List.set_cons_succ]
  refine' anyI_take R 10 rfl (v := ?_) (by kernel_rfl) (by rfl) (fun V hV => ?hy) HS0.out ?_
  case hy => ((try dsimp only at hV);  obtain ⟨⟨q0, q1, q2, q3, q4, q5, q6, q7, q8, q9, q10⟩, _, _⟩ := hV; go_simp; try with_reducible rfl)
  try simp only [Act.put, List.getElem_toArray, List.getElem_cons_succ, List.getElem_cons_zero, List.setIfInBounds_toArray, List.set_cons_zero, List.set_cons_succ]
  refine' anyI_take R 11 rfl (v := ?_) (by kernel_rfl) (by rfl) (fun V hV => ?hy) HS0.out ?_
  case hy => ((try dsimp only at hV);  obtain ⟨⟨q0, q1, q2, q3, q4, q5, q6, q7, q8, q9, q10⟩, _, _⟩ := hV; go_simp; try with_reducible rfl)
  try simp only [Act.put, List.getElem_toArray, List.getElem_cons_succ, List.getElem_cons_zero, List.setIfInBounds_toArray, List.set_cons_zero, List.set_cons_succ]
  refine' anyI_take R 12 rfl (v := ?_) (by kernel_rfl) (by rfl) (fun V hV => ?hy) HS0.out ?_
  case hy => ((try dsimp only at hV);  obtain ⟨⟨q0, q1, q2, q3, q4, q5, q6, q7, q8, q9, q10⟩, _, _⟩ := hV; go_simp; try with_reducible rfl)
  try simp only [Act.put, List.getElem_toArray, List.getElem_cons_succ, List.getElem_cons_zero, List.setIfInBounds_toArray, List.set_cons_zero, List.set_cons_succ]
  refine' anyI_take R 13 rfl (v := ?_) (by kernel_rfl) (by rfl) (fun V hV => ?hy) HS0.out ?_
  case hy => ((try dsimp only at hV);  obtain ⟨⟨q0, q1, q2, q3, q4, q5, q6, q7, q8, q9, q10⟩, _, _⟩ := hV; go_simp; try with_reducible rfl)
  try simp only [Act.put, List.getElem_toArray, List.getElem_cons_succ, List.getElem_cons_zero, List.setIfInBounds_toArray, List.set_cons_zero, List.set_cons_succ]
  refine anyI_tail (by kernel_rfl) ?_
  try simp only [List.drop_succ_cons, List.drop_zero]
  clear R
  go_wp2_with fail
  refine NoPanic.normal ?_
  have K10 := Lib.hid (F8.out.below HS0.out.2.1)
  have Hc10 : Hid (∀ k, k < 4 → w9.cell? ⟨gh, k, none⟩ = some (.bool (lv.getD k false)) ∧ w9.cell? ⟨gl, k, none⟩ = some (.bool (lv.getD k false))) := fun k hk => by
    refine ⟨(HS0.out.2.1.cell (p := ⟨gh, k, none⟩) Hhas8.out.2).trans (Hhas8.out.1 k hk), ?_⟩
    have hrw := (K10.out.kp (gl, Obj.cells (lv.map Value.bool).toArray 4 (0, 0)) (by simp)).1
    rw [cell_of_row _ _ k _ _ _ hrw, List.getElem?_toArray, List.getElem?_map, List.getElem?_eq_getElem (by rw [Hlen.out]; exact hk)]
    simp [List.getD_eq_getElem?_getD, Hlen.out, hk]
  go_wp2_with fail
  refine soH (w0 := w9) (gh := gh) (gl := gl) (cap := cap) (lv := lv) _ _ _ _ _ _ _ _ _ _ _ _ _ _ _ _ _ _ _ _ _ _ _ _ _ _ _ _ _ _ _ _ _ _ _ _ _ _ _ _ _ _ _ _ _ _ _ _ _ _ _ _ _ _ _ _ _ _ _ _ _ _ _ _ _ _ _ _ _ _ _ _ _ _ _ _ _ _ _ _ _ _ _ _ _ _ _ _ _ _ _ _ _ _ _ _ _ _ _ _ _ _ _ _ _ _ _ _ _ _ _ _ _ _ _ _ _ _ _ _ _ _ _ _ _ _ _ _ _ _ _ _ _ _ _ _ _ _ _ _ _ _ _ _ _ _ _ _ _ _ _ _ _ _ _ _ _ _ hcap ⟨Nat.zero_le _, Hc10.out, Below.refl _ _⟩ (fun v8 v25 v148 v149 v150 v151 v152 v153 v154 v155 v156 v157 v158 v159 d V4 hI hx => ?_)
  have F10 := Lib.hid (K10.out.bp.bel.trans (hI.2.2.mono K10.out.bp.bel.size))
  clear hI hx
  go_wp2_with fail
  refine (wakesSl_any _ (Ht.out.below F10.out Ht.out.pos)).mono ?_
  rintro e w11 ⟨rfl, hb11⟩
  have F11 := Lib.hid (F10.out.trans (hb11.mono F10.out.size))
  clear hb11
  go_wp2_with fail
  go_ret
  exact ⟨rfl, F11.out⟩
end Go.Proofs.YtiipdhmfdgbmiaaDoor
