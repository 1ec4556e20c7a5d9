/- The document's own sector of a Super that may be. -/
import Derived.Test.YtiipdhmfdgbmiaaDoorRefSup
import Derived.Test.YtiipdhmfdgbmiaaDoorRefSupEnc
import Derived.Test.YtiipdhmfdgbmiaaDoorOwnFull
import Derived.Test.YtiipdhmfdgbmiaaDoorOwnStep
import Derived.Test.YtiipdhmfdgbmiaaDoorRefCrc
import Derived.Test.YtiipdhmfdgbmiaaDoorTbae
set_option linter.unusedVariables false
set_option linter.unusedSimpArgs false
namespace Go.Proofs.YtiipdhmfdgbmiaaDoor
open Go.RowKit

theorem SS.grown {w0 W W' : World} {B b : Nat} {s : Su} {row : Option Nat} (h : SS w0 B b s W) (hg : W.grownBy W' row) (hr : ∀ j, row = some j → b + 1 ≤ j ∧ j < W.heap.size) (hB : B ≤ b + 1 := by omega) (hz : B ≤ w0.heap.size := by exact Nat.le_refl _) : SS w0 B b s W' :=
  ⟨h.1.keep fun k => hg.cell_far ⟨b, k, none⟩ h.2.2 (fun e => by have := (hr b e.symm).1; omega), h.2.1.grown hg (Nat.le_trans hz h.2.1.size) (fun j e => by have := (hr j e).1; omega), Nat.lt_of_lt_of_le h.2.2 hg.size⟩
theorem refFull_any (v : Value) (bs : List UInt8) (B : Nat) (w : World) (h : OwB 5 w B v bs) (hl : bs.length = 19) (hB : B ≤ w.heap.size) :
    Calls Tryd.prog 52 #[v] w fun e w' => ∃ v', e = .returned v' ∧ OwB 5 w' B v' (bs ++ List.replicate 13 0) ∧ w.grownBy w' v.ownBlock := by
  obtain ⟨A, c, rfl, hc, hr⟩ := h.rd
  have Hh := Lib.hid h
  have HL := Lib.hid hl
  rw [hl]
  rw [hl] at Hh
  clear h hl hr hc
  go_enter Tryd.func52, Tryd.ntmps52
  go_wp2_with (refine wpList_append_Z _ rfl _ _ _ _ rfl B 5 .i64 Tryd.underlying38 Tryd.underlying3 info_u8 (.slice A 19 c) bs rfl Hh.out .i64 13 rfl (by omega) (by rw [HL.out]; omega) hB ?_; intro v1 w1 o1 g1 h1)
  go_ret
  exact ⟨_, rfl, o1, g1⟩
theorem refEncode_no (s : Su) (w : World) (h : Su64 s) (hk : Hid (suOk s = false)) :
    Calls Tryd.prog 20 #[.agg #[.int .i64 s.g, .int .i64 s.al, .int .i64 s.ad, .int .i64 s.ac, .int .i64 s.bl, .int .i64 s.bd, .int .i64 s.bc, .bool s.r, .int .i64 s.wi, .int .i64 s.ep, .int .i64 s.ou]] w fun e w' => e = .returned (.tuple #[.slice none 0 0, .bool false]) ∧ Below w.heap.size w w' := by
  have C := Lib.hid (fun W => refCheckSu_no s W h hk)
  have S0 := ss_new w s 54 (0, 0)
  go_enter Tryd.func20, Tryd.ntmps20
  go_wp2_with fail
  (with_reducible refine (C.out _).mono ?_); rintro e w1 ⟨rfl, hb⟩
  have S1 := S0.later hb
  go_wp2_with fail
  go_ret2
  exact ⟨rfl, S1.2.1⟩
theorem byte_is {n : Int} (h : 0 ≤ n ∧ n ≤ 255) : n = ((byN n 0).toNat : Int) := by have := byN_u8 h.1 0 (by omega); omega
set_option maxHeartbeats 8000000 in
theorem refEncode_yes (s : Su) (w : World) (h : Su64 s) (hk : Hid (suOk s = true)) :
    Calls Tryd.prog 20 #[.agg #[.int .i64 s.g, .int .i64 s.al, .int .i64 s.ad, .int .i64 s.ac, .int .i64 s.bl, .int .i64 s.bd, .int .i64 s.bc, .bool s.r, .int .i64 s.wi, .int .i64 s.ep, .int .i64 s.ou]] w fun e w' => ∃ v, e = .returned (.tuple #[v, .bool true]) ∧ OwB 5 w' w.heap.size v (suB s) ∧ Below w.heap.size w w' := by
  have C := Lib.hid (fun W => refCheckSu_yes s W h hk)
  have I := Lib.hid (suIn hk.out)
  have HL := Lib.hid (show suFull s = [87, 83, 85, 80] ++ [byN s.g 3, byN s.g 2, byN s.g 1, byN s.g 0] ++ [byN s.al 0, byN s.ad 0, byN s.ac 0] ++ [byN s.bl 0, byN s.bd 0, byN s.bc 0] ++ [rnB s.r, byN s.wi 0, byN s.ep 1, byN s.ep 0, byN s.ou 0] ++ List.replicate 13 0 from rfl)
  have HB := Lib.hid (show suB s = stamped (suFull s) [] from rfl)
  have HF := Lib.hid (fun W => refFour_any s.g W (by have := I.out.g; omega))
  have G1 := Lib.hid (fun W => refGeom_any s.al s.ad s.ac W I.out.al I.out.ad I.out.ac)
  have G2 := Lib.hid (fun W => refGeom_any s.bl s.bd s.bc W I.out.bl I.out.bd I.out.bc)
  have S0 := ss_new w s 54 (0, 0)
  clear h hk
  go_enter Tryd.func20, Tryd.ntmps20
  go_wp2_with fail
  (with_reducible refine (C.out _).mono ?_); rintro e w1 ⟨rfl, hb⟩
  have S1 := S0.later hb
  clear S0 hb C
  have hcv := conv_const w1 w1.heap.size #[.int .u8 87, .int .u8 83, .int .u8 85, .int .u8 80] 4 4 rfl
  have S2 := S1.later (below1 w1 (.cells #[.int .u8 87, .int .u8 83, .int .u8 85, .int .u8 80] 5 (4, 5)))
  have RD : RdB (w1.alloc (.cells #[.int .u8 87, .int .u8 83, .int .u8 85, .int .u8 80] 5 (4, 5))) (w1.heap.size + 1) (some ⟨w1.heap.size, 0, none⟩) [87, 83, 85, 80] := rdb_block (hp_new _ _ _ rfl) (by omega) (by simp) fun k hk => by
    match k, hk with
    | 0, _ => rfl
    | 1, _ => rfl
    | 2, _ => rfl
    | 3, _ => rfl
  have HS2 := Lib.hid S2
  clear S1
  obtain ⟨⟨c0, c1, c2, c3, c4, c5, c6, c7, c8, c9, c10⟩, _, _⟩ := S2
  go_wp2_with fail
  (with_reducible refine (HF.out _).mono ?_); rintro e w2 ⟨g4, rfl, o4, hb4⟩
  have R1 := RD.below hb4 (by simp)
  have S3 := SS.later HS2.out hb4
  have HS3 := Lib.hid S3
  clear hb4 HF RD HS2 c0 c1 c2 c3 c4 c5 c6 c7 c8 c9 c10 S3
  go_wp2_with (refine wpList_append_F _ rfl _ _ _ rfl 5 Tryd.underlying38 info_u8 (some ⟨w1.heap.size, 0, none⟩) 4 _ [87, 83, 85, 80] rfl rfl (by omega) R1 (some ⟨g4, 0, none⟩) 4 4 _ _ rfl rfl (by simp) (o4.rdS.1) (by simp) ?_; intro v0 w3 O0 hb5; have HS9 := Lib.hid (SS.later HS3.out hb5); replace O0 := (O0.le (show w.heap.size + 1 ≤ w2.heap.size from HS3.out.2.2)).below (Below.refl _ _).drew)
  clear R1 o4 hb5 HS3 hcv
  refine wp_region_noPanic (region_ord 9 [] (fun V => SS w w.heap.size w.heap.size s V) (by kernel_rfl) (by kernel_rfl) (fun _ _ _ _ _ h => h) fun R => ?_)
  change anyI _ _ _ _ _ _ 10 _ _ w3.drew
  have HS0 := Lib.hid (show (fun V => SS w w.heap.size w.heap.size s V) w3.drew from SS.drew HS9.out)
  refine' anyI_take R 0 rfl (v := ?_) (by kernel_rfl) (by rfl) (fun V hV => ?hy) HS0.out ?_
  case hy => ((try dsimp only at hV);  obtain ⟨⟨q0, q1, q2, q3, q4, q5, q6, q7, q8, q9, q10⟩, _, _⟩ := hV; go_simp; try with_reducible rfl)
  try simp only [Act.put, List.getElem_toArray, List.getElem_cons_succ, List.getElem_cons_zero, List.setIfInBounds_toArray, List.set_cons_zero, List.set_cons_succ]
  refine' anyI_take R 1 rfl (v := ?_) (by kernel_rfl) (by rfl) (fun V hV => ?hy) HS0.out ?_
  case hy => ((try dsimp only at hV);  obtain ⟨⟨q0, q1, q2, q3, q4, q5, q6, q7, q8, q9, q10⟩, _, _⟩ := hV; go_simp; try with_reducible rfl)
  try simp only [Act.put, List.getElem_toArray, List.getElem_cons_succ, List.getElem_cons_zero, List.setIfInBounds_toArray, List.set_cons_zero, List.set_cons_succ]
  refine' anyI_take R 2 rfl (v := ?_) (by kernel_rfl) (by rfl) (fun V hV => ?hy) HS0.out ?_
  case hy => ((try dsimp only at hV);  obtain ⟨⟨q0, q1, q2, q3, q4, q5, q6, q7, q8, q9, q10⟩, _, _⟩ := hV; go_simp; try with_reducible rfl)
  try simp only [Act.put, List.getElem_toArray, List.getElem_cons_succ, List.getElem_cons_zero, List.setIfInBounds_toArray, List.set_cons_zero, List.set_cons_succ]
  refine' anyI_take R 5 rfl (v := ?_) (by kernel_rfl) (by rfl) (fun V hV => ?hy) HS0.out ?_
  case hy => ((try dsimp only at hV);  obtain ⟨⟨q0, q1, q2, q3, q4, q5, q6, q7, q8, q9, q10⟩, _, _⟩ := hV; go_simp; try with_reducible rfl)
  try simp only [Act.put, List.getElem_toArray, List.getElem_cons_succ, List.getElem_cons_zero, List.setIfInBounds_toArray, List.set_cons_zero, List.set_cons_succ]
  refine' anyI_take R 6 rfl (v := ?_) (by kernel_rfl) (by rfl) (fun V hV => ?hy) HS0.out ?_
  case hy => ((try dsimp only at hV);  obtain ⟨⟨q0, q1, q2, q3, q4, q5, q6, q7, q8, q9, q10⟩, _, _⟩ := hV; go_simp; try with_reducible rfl)
  try simp only [Act.put, List.getElem_toArray, List.getElem_cons_succ, List.getElem_cons_zero, List.setIfInBounds_toArray, List.set_cons_zero, List.set_cons_succ]
  refine anyI_one 3 (by kernel_rfl) rfl ?_
  try simp only [List.getElem_toArray, List.getElem_cons_succ, List.getElem_cons_zero]
  refine opE_step ?_
  rw [if_pos (by rfl)]
  go_simp
  go_at_call 50
  refine (G1.out _).mono ?_
  rintro e wg1 ⟨gg1, rfl, og1, hb1⟩
  have P1 := O0.below hb1
  replace HS0 := Lib.hid (SS.later HS0.out hb1)
  clear hb1 O0
  dsimp only
  refine ⟨HS0.out, ?_⟩
  try simp only [Act.put, List.getElem_toArray, List.getElem_cons_succ, List.getElem_cons_zero, List.setIfInBounds_toArray, List.set_cons_zero, List.set_cons_succ]
  refine anyI_one 4 (by kernel_rfl) rfl ?_
  try simp only [List.getElem_toArray, List.getElem_cons_succ, List.getElem_cons_zero]
  refine opE_step ?_
  refine step_append_B _ rfl _ _ _ rfl (w.heap.size + 1) 5 Tryd.underlying38 info_u8 _ _ rfl P1 _ (some ⟨gg1, 0, none⟩) 3 3 _ rfl rfl (og1.rdS.1) (by simp) HS0.out.2.2 ?_
  intro v1 wh1 O1 gr1 hat1
  replace HS0 := Lib.hid (SS.grown HS0.out gr1 (P1.lt))
  clear gr1 hat1 P1 og1
  dsimp only
  refine ⟨HS0.out, ?_⟩
  try simp only [Act.put, List.getElem_toArray, List.getElem_cons_succ, List.getElem_cons_zero, List.setIfInBounds_toArray, List.set_cons_zero, List.set_cons_succ]
  refine anyI_one 7 (by kernel_rfl) rfl ?_
  try simp only [List.getElem_toArray, List.getElem_cons_succ, List.getElem_cons_zero]
  refine opE_step ?_
  rw [if_pos (by rfl)]
  go_simp
  go_at_call 50
  refine (G2.out _).mono ?_
  rintro e wg2 ⟨gg2, rfl, og2, hb2⟩
  have P2 := O1.below hb2
  replace HS0 := Lib.hid (SS.later HS0.out hb2)
  clear hb2 O1
  dsimp only
  refine ⟨HS0.out, ?_⟩
  try simp only [Act.put, List.getElem_toArray, List.getElem_cons_succ, List.getElem_cons_zero, List.setIfInBounds_toArray, List.set_cons_zero, List.set_cons_succ]
  refine anyI_one 8 (by kernel_rfl) rfl ?_
  try simp only [List.getElem_toArray, List.getElem_cons_succ, List.getElem_cons_zero]
  refine opE_step ?_
  refine step_append_B _ rfl _ _ _ rfl (w.heap.size + 1) 5 Tryd.underlying38 info_u8 _ _ rfl P2 _ (some ⟨gg2, 0, none⟩) 3 3 _ rfl rfl (og2.rdS.1) (by simp) HS0.out.2.2 ?_
  intro v2 wh2 O2 gr2 hat2
  replace HS0 := Lib.hid (SS.grown HS0.out gr2 (P2.lt))
  clear gr2 hat2 P2 og2
  dsimp only
  refine ⟨HS0.out, ?_⟩
  try simp only [Act.put, List.getElem_toArray, List.getElem_cons_succ, List.getElem_cons_zero, List.setIfInBounds_toArray, List.set_cons_zero, List.set_cons_succ]
  refine anyI_tail (by kernel_rfl) ?_
  try simp only [List.drop_succ_cons, List.drop_zero]
  clear R
  go_wp2_with fail
  refine NoPanic.normal ?_
  have HS2 := Lib.hid HS0.out
  obtain ⟨⟨c0, c1, c2, c3, c4, c5, c6, c7, c8, c9, c10⟩, _, _⟩ := HS0.out
  have HO2 := Lib.hid O2
  have hEw : s.wi % 256 = ((byN s.wi 0).toNat : Int) := by have := byN_u8 (show 0 ≤ s.wi by have := I.out.wi; omega) 0 (by omega); omega
  have hE1 : s.ep / 256 % 256 = ((byN s.ep 1).toNat : Int) := byN_u8 (show 0 ≤ s.ep by have := I.out.ep; omega) 1 (by omega)
  have hE0 : s.ep % 256 = ((byN s.ep 0).toNat : Int) := by have := byN_u8 (show 0 ≤ s.ep by have := I.out.ep; omega) 0 (by omega); omega
  have hEo : s.ou % 256 = ((byN s.ou 0).toNat : Int) := by have := byN_u8 (show 0 ≤ s.ou by have := I.out.ou; omega) 0 (by omega); omega
  have Et := Lib.hid (show s.r = true → (Value.int .u8 1) = .int .u8 ((rnB s.r).toNat : Int) from fun q => by rw [q]; rfl)
  have Ef := Lib.hid (show s.r = false → (Value.int .u8 0) = .int .u8 ((rnB s.r).toNat : Int) from fun q => by rw [q]; rfl)
  clear HS0 O2 I G1 G2 HS9
  generalize byN s.wi 0 = bw at hEw HL
  generalize byN s.ep 1 = b1 at hE1 HL
  generalize byN s.ep 0 = b0 at hE0 HL
  generalize byN s.ou 0 = bo at hEo HL
  generalize rnB s.r = rb at Et Ef HL
  go_upto_if 25 with fail
  go_cut [5] (fun v W => v = .int .u8 (rb.toNat : Int) ∧ W = wh2)
  case first =>
    clear hEw hE1 hE0 hEo
    go_wp2_with fail
    all_goals
      go_meet
      first | exact ⟨Et.out (by assumption), rfl⟩ | exact ⟨Ef.out (by assumption), rfl⟩
  case rest =>
    obtain ⟨rfl, rfl⟩ := hcut
    have H5 := own_lit (e := 5) (W := wc) (C := #[.int .u8 (rb.toNat : Int), .int .u8 (bw.toNat : Int), .int .u8 (b1.toNat : Int), .int .u8 (b0.toNat : Int), .int .u8 (bo.toNat : Int)]) (n := 5) [rb, bw, b1, b0, bo] rfl rfl (by omega)
    have HR5 := Lib.hid H5.rdS.1
    clear H5
    go_wp2_with (refine wpList_append_B _ rfl _ _ _ rfl (w.heap.size + 1) 5 Tryd.underlying38 info_u8 v2 _ rfl (HO2.out.below (below1 _ _)) _ (some ⟨wc.heap.size, 0, none⟩) 5 5 [rb, bw, b1, b0, bo] rfl rfl HR5.out (by simp) (by have := HS2.out.2.2; simp; omega) ?_; intro v3 w6 O3 g6 hat6)
    have S6 := SS.grown (SS.later HS2.out (below1 wc _)) g6 ((HO2.out.below (below1 wc _)).lt)
    have z6 : w.heap.size + 1 ≤ w6.heap.size := S6.2.2
    (with_reducible refine (refFull_any v3 _ _ w6 O3 (by simp) z6).mono ?_); rintro e w7 ⟨v4, rfl, O4, g7⟩
    have S7 := SS.grown S6 g7 O3.lt
    rw [← HL.out] at O4
    obtain ⟨g, cap, hv4, hBg, hglt, hcap, hcm, hrd⟩ := O4.pos (by rw [suFull_len]; omega)
    rw [suFull_len] at hv4
    subst hv4
    have CS := Lib.hid (refSealed_n (some ⟨g, 0, none⟩) none 32 cap 0 (suFull s) [] 0 w7 rfl rfl (by omega) rfl hrd ⟨by simp, fun h => by simp at h⟩)
    have HS7 := Lib.hid S7
    clear S7 S6 O4 O3 g6 g7 hat6 hrd HL HO2 HR5 hEw hE1 hE0 hEo HS2 c0 c1 c2 c3 c4 c5 c6 c7 c8 c9 c10
    go_wp2_with (go_at_call 51; refine CS.out.mono ?_; rintro e w8 ⟨v5, rfl, O5, hb8⟩)
    go_ret2
    exact ⟨v5, rfl, O5.le HS7.out.2.1.size, HS7.out.2.1.trans (hb8.mono HS7.out.2.1.size)⟩
end Go.Proofs.YtiipdhmfdgbmiaaDoor
