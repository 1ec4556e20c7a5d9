/- The document's EncodeRecord. -/
import Derived.Test.YtoomdgidpplpfaaDoorRefRecLoop
set_option linter.unusedVariables false
set_option linter.unusedSimpArgs false
namespace Go.Proofs.YtoomdgidpplpfaaDoor
open Go.RowKit

theorem refEncRec_no (A : Option Addr) (n c : Nat) (s : Int) (l : List It) (w : World) (hn : l.length = n) (hnc : n ≤ c) (hs : (-9223372036854775808 ≤ s ∧ s ≤ 9223372036854775807)) (h : RdI w w.heap.size A l) (hk : Hid (recOk s l = false)) :
    Calls Tryd.prog 44 #[.int .i64 s, .slice A n c] w fun e w' => e = .returned (.tuple #[.slice none 0 0, .bool false]) ∧ Below w.heap.size w w' := by
  have C := Lib.hid (refCheckRec_any A n c s l w hn hnc hs h)
  rw [hk.out] at C
  clear h hk hn hnc hs
  go_enter Tryd.func44, Tryd.ntmps44
  go_wp2_with fail
  (with_reducible refine C.out.mono ?_); rintro e w1 ⟨rfl, hb1⟩
  go_wp2_with fail
  go_ret2
  exact ⟨rfl, hb1⟩
theorem hdB_nine (s : Int) (l : List It) : hdB s l = [87, 82, 69, 67] ++ [byN s 3, byN s 2, byN s 1, byN s 0] ++ [UInt8.ofNat l.length] ++ plcB l := rfl
set_option maxRecDepth 100000 in
set_option maxHeartbeats 8000000 in
theorem refEncRec_yes (A : Option Addr) (n c : Nat) (s : Int) (l : List It) (w : World) (hn : l.length = n) (hnc : n ≤ c) (hs : (-9223372036854775808 ≤ s ∧ s ≤ 9223372036854775807)) (h : RdI w w.heap.size A l) (hk : Hid (recOk s l = true)) :
    Calls Tryd.prog 44 #[.int .i64 s, .slice A n c] w fun e w' => ∃ g cap bk cp, e = .returned (.tuple #[.slice (some ⟨g, 0, none⟩) 4 cap, .bool true]) ∧ Rw w.heap.size w' g cap 4 bk cp (recB s l) ∧ Below w.heap.size w w' := by
  subst hn
  have C := Lib.hid (refCheckRec_any A l.length c s l w rfl hnc hs h)
  rw [hk.out] at C
  have hmk : ∀ w, (Instr.makeSlice 41 (.int .i64 32) (.int .i64 32)).run Tryd.prog w = .ok (.slice (some ⟨w.heap.size, 0, none⟩) 32 32) (w.alloc (.cells (zcells 32) 5)) := make_bytes 32 (by omega)
  obtain ⟨⟨hs1, hs2, hl3⟩, _⟩ := (recOk_iff s l).1 hk.out
  have HM0 := Lib.hid (recOk_may hk.out)
  have HL := Lib.hid hl3
  have HI := Lib.hid h
  have HF := Lib.hid (fun W => refFour_any s W (by omega))
  have HH := Lib.hid (hdB_nine s l)
  have HB := Lib.hid (show recB s l = stamped (hdB s l ++ List.replicate (32 - (9 + 2 * l.length)) 0) (partsB l) :: partsB l by unfold recB fullB; rw [hdB_len])
  have HZ := Lib.hid (hdB_len s l)
  have HPl := Lib.hid (partsB_len hl3)
  have el : (l.length : Int) = ((UInt8.ofNat l.length).toNat : Int) := by rw [UInt8.toNat_ofNat']; omega
  generalize hfr : [byN s 3, byN s 2, byN s 1, byN s 0] = fr at HF HH
  have Hfr : Hid (fr.length = 4) := Lib.hid (by rw [← hfr]; rfl)
  generalize UInt8.ofNat l.length = bl at el HH
  have El := Lib.hid el
  have kl : (bl.toNat : Int) % 256 = (bl.toNat : Int) := by have : bl.toNat < 256 := bl.toNat_lt; omega
  have kl2 : (l.length : Int) % 256 = (l.length : Int) := by omega
  clear h hk hs hs1 hs2 hfr el kl
  go_enter Tryd.func44, Tryd.ntmps44
  go_wp2_with fail
  (with_reducible refine C.out.mono ?_); rintro e w1 ⟨rfl, hb1⟩
  have F1 := Lib.hid hb1
  clear hb1 C
  have hcv := conv_const w1 w1.heap.size #[.int .u8 87, .int .u8 82, .int .u8 69, .int .u8 67] 4 4 rfl
  have F2 := Lib.hid (F1.out.alloc F1.out.size (.cells #[.int .u8 87, .int .u8 82, .int .u8 69, .int .u8 67] 5 (4, 5)))
  have RD : RdB (w1.alloc (.cells #[.int .u8 87, .int .u8 82, .int .u8 69, .int .u8 67] 5 (4, 5))) (w1.heap.size + 1) (some ⟨w1.heap.size, 0, none⟩) [87, 82, 69, 67] := rdb_block (hp_new _ _ _ rfl) (by omega) (by simp) fun k hk => by
    match k, hk with
    | 0, _ => rfl
    | 1, _ => rfl
    | 2, _ => rfl
    | 3, _ => rfl
  go_wp2_with fail
  (with_reducible refine (HF.out _).mono ?_); rintro e w2 ⟨g4, rfl, o4, hb4⟩
  have R1 := RD.below hb4 (by simp)
  have F3' := Lib.hid (F2.out.trans (hb4.mono F2.out.size))
  have R4 := Lib.hid o4.rdS.1
  clear hb4 HF RD F2 F1 o4
  go_upto_region 4 with (first
    | ((with_reducible refine (id ?_ : wpList _ _ _ (⟨some 18, _, _, _, _, _⟩ :: _) _ _)); refine wpList_append_F _ rfl _ _ _ rfl 5 Tryd.underlying41 info_u8 (some ⟨w1.heap.size, 0, none⟩) 4 _ [87, 82, 69, 67] rfl rfl (by omega) R1 (some ⟨g4, 0, none⟩) 4 4 _ fr rfl Hfr.out.symm (by rw [Hfr.out]; omega) R4.out (by rw [Hfr.out]; omega) ?_
       intro v0 w5 O0 hb5
       have F5 := Lib.hid (F3'.out.trans (hb5.mono F3'.out.size))
       have P0 := Lib.hid ((O0.le F3'.out.size).below (below1 w5 (.cells #[.int .u8 (l.length : Int)] 5)))
       have F6 := Lib.hid (F5.out.alloc F5.out.size (.cells #[.int .u8 (l.length : Int)] 5))
       clear O0 hb5 hcv)
    | ((with_reducible refine (id ?_ : wpList _ _ _ (⟨some 23, _, _, _, _, _⟩ :: _) _ _)); refine wpList_append_B _ rfl _ _ _ rfl w.heap.size 5 Tryd.underlying41 info_u8 v0 _ rfl P0.out _ (some ⟨w5.heap.size, 0, none⟩) 1 1 [bl] rfl rfl (rd_lit _ rfl (by simp [bv, El.out]) (by simp)) (by have := Hfr.out; simp; omega) F6.out.size ?_
       intro v1 w3 O1 g1 _
       have F3 := Lib.hid (F6.out.grown g1 F6.out.size (fun k e => (P0.out.lt k e).1))
       have O3 := Lib.hid O1
       clear O1 g1 P0 F5 F6))
  clear R1 R4 F3' kl2
  have HB0 : Hid (([87, 82, 69, 67] ++ fr ++ [bl]).length = 9) := Lib.hid (by have := Hfr.out; simp; omega)
  generalize [87, 82, 69, 67] ++ fr ++ [bl] = b0 at O3 HH HB0
  go_cut [7] (fun s7 W => ∃ g bk, s7 = .slice (some ⟨g, 0, none⟩) 3 3 ∧ Rw w3.heap.size W g 3 3 bk (fun _ => 32) [z32, z32, z32] ∧ Below w3.heap.size w3 W)
  case first =>
    clear HB HH HZ HPl
    refine wp_region_noPanic (region_ord 4 [] (fun V => Below w3.heap.size w3 V) (by kernel_rfl) (by kernel_rfl) (fun _ _ _ _ _ h => h) fun R => ?_)
    change anyI _ _ _ _ _ _ 5 _ _ w3.drew
    have HS0 := Lib.hid (show (fun V => Below w3.heap.size w3 V) w3.drew from (Below.refl _ _).drew)
    obtain ⟨V0, hV0⟩ : ∃ V, w3.drew = V := ⟨_, rfl⟩
    rw [hV0] at HS0 ⊢
    clear hV0
    have HM := Lib.hid (Mk.nil V0 w3.heap.size HS0.out.size)
    refine anyI_three 0 1 2 (by kernel_rfl) rfl rfl rfl ?_ ?_ ?_
    · try simp only [List.getElem_toArray, List.getElem_cons_succ, List.getElem_cons_zero]
      refine opE_step ?_
      rw [if_pos (by rfl)]
      go_simp
      replace HS0 := Lib.hid (HS0.out.alloc HS0.out.size (.cells (zcells 32) 5))
      replace HM := Lib.hid HM.out.push
      obtain ⟨V0a, hVn⟩ : ∃ V, V0.alloc (.cells (zcells 32) 5) = V := ⟨_, rfl⟩
      have HzV0a := Lib.hid (show V0.heap.size < V0a.heap.size by rw [← hVn]; simp)
      rw [hVn] at HS0 HM ⊢
      clear hVn
      try dsimp only
      refine ⟨HS0.out, ?_⟩
      try simp only [Act.put, List.getElem_toArray, List.getElem_cons_succ, List.getElem_cons_zero, List.setIfInBounds_toArray, List.set_cons_zero, List.set_cons_succ]
      refine anyI_two 1 2 (by kernel_rfl) rfl rfl ?_ ?_
      · try simp only [List.getElem_toArray, List.getElem_cons_succ, List.getElem_cons_zero]
        refine opE_step ?_
        rw [if_pos (by rfl)]
        go_simp
        replace HS0 := Lib.hid (HS0.out.alloc HS0.out.size (.cells (zcells 32) 5))
        replace HM := Lib.hid HM.out.push
        obtain ⟨V0ab, hVn⟩ : ∃ V, V0a.alloc (.cells (zcells 32) 5) = V := ⟨_, rfl⟩
        have HzV0ab := Lib.hid (show V0a.heap.size < V0ab.heap.size by rw [← hVn]; simp)
        rw [hVn] at HS0 HM ⊢
        clear hVn
        try dsimp only
        refine ⟨HS0.out, ?_⟩
        try simp only [Act.put, List.getElem_toArray, List.getElem_cons_succ, List.getElem_cons_zero, List.setIfInBounds_toArray, List.set_cons_zero, List.set_cons_succ]
        refine anyI_one 2 (by kernel_rfl) rfl ?_
        try simp only [List.getElem_toArray, List.getElem_cons_succ, List.getElem_cons_zero]
        refine opE_step ?_
        rw [if_pos (by rfl)]
        go_simp
        replace HS0 := Lib.hid (HS0.out.alloc HS0.out.size (.cells (zcells 32) 5))
        replace HM := Lib.hid HM.out.push
        obtain ⟨V0abc, hVn⟩ : ∃ V, V0ab.alloc (.cells (zcells 32) 5) = V := ⟨_, rfl⟩
        have HzV0abc := Lib.hid (show V0ab.heap.size < V0abc.heap.size by rw [← hVn]; simp)
        rw [hVn] at HS0 HM ⊢
        clear hVn
        try dsimp only
        refine ⟨HS0.out, ?_⟩
        try simp only [Act.put, List.getElem_toArray, List.getElem_cons_succ, List.getElem_cons_zero, List.setIfInBounds_toArray, List.set_cons_zero, List.set_cons_succ]
        refine anyI_one 3 (by kernel_rfl) rfl ?_
        try simp only [List.getElem_toArray, List.getElem_cons_succ, List.getElem_cons_zero]
        refine opE_step ?_
        rw [if_pos (by rfl)]
        go_simp
        have HR := Lib.hid (HM.out.row [V0.heap.size, V0a.heap.size, V0ab.heap.size] (by simp) (fun b hb => by simp only [List.mem_cons, List.not_mem_nil, or_false] at hb ⊢; rcases hb with rfl | rfl | rfl <;> simp) (by have hn := HM.out.nd; simp only [List.nodup_cons, List.mem_cons, List.not_mem_nil, or_false, not_or, List.nodup_nil, and_true, not_false_eq_true] at hn ⊢; omega))
        replace HS0 := Lib.hid (HS0.out.alloc HS0.out.size (.cells #[.slice (some ⟨V0.heap.size, 0, none⟩) 32 32, .slice (some ⟨V0a.heap.size, 0, none⟩) 32 32, .slice (some ⟨V0ab.heap.size, 0, none⟩) 32 32] 41))
        obtain ⟨V0abcr, hVn⟩ : ∃ V, V0abc.alloc (.cells #[.slice (some ⟨V0.heap.size, 0, none⟩) 32 32, .slice (some ⟨V0a.heap.size, 0, none⟩) 32 32, .slice (some ⟨V0ab.heap.size, 0, none⟩) 32 32] 41) = V := ⟨_, rfl⟩
        have HR2 : Hid (Rw w3.heap.size V0abcr V0abc.heap.size 3 3 (fun k => [V0.heap.size, V0a.heap.size, V0ab.heap.size].getD k 0) (fun _ => 32) [z32, z32, z32]) := Lib.hid (by rw [← hVn]; exact HR.out)
        rw [hVn] at HS0 ⊢
        clear hVn HR
        try dsimp only
        refine ⟨HS0.out, ?_⟩
        try simp only [Act.put, List.getElem_toArray, List.getElem_cons_succ, List.getElem_cons_zero, List.setIfInBounds_toArray, List.set_cons_zero, List.set_cons_succ]
        refine anyI_tail (by kernel_rfl) ?_
        try simp only [List.drop_succ_cons, List.drop_zero]
        clear R
        go_wp2_with fail
        refine NoPanic.normal ?_
        try simp only [Exit.then]
        refine ‹∀ (a : Act) (w : World), Met _ a w → _› _ _ ?_
        go_meet
        exact ⟨_, _, rfl, HR2.out, HS0.out⟩
      · try simp only [List.getElem_toArray, List.getElem_cons_succ, List.getElem_cons_zero]
        refine opE_step ?_
        rw [if_pos (by rfl)]
        go_simp
        replace HS0 := Lib.hid (HS0.out.alloc HS0.out.size (.cells (zcells 32) 5))
        replace HM := Lib.hid HM.out.push
        obtain ⟨V0ac, hVn⟩ : ∃ V, V0a.alloc (.cells (zcells 32) 5) = V := ⟨_, rfl⟩
        have HzV0ac := Lib.hid (show V0a.heap.size < V0ac.heap.size by rw [← hVn]; simp)
        rw [hVn] at HS0 HM ⊢
        clear hVn
        try dsimp only
        refine ⟨HS0.out, ?_⟩
        try simp only [Act.put, List.getElem_toArray, List.getElem_cons_succ, List.getElem_cons_zero, List.setIfInBounds_toArray, List.set_cons_zero, List.set_cons_succ]
        refine anyI_one 1 (by kernel_rfl) rfl ?_
        try simp only [List.getElem_toArray, List.getElem_cons_succ, List.getElem_cons_zero]
        refine opE_step ?_
        rw [if_pos (by rfl)]
        go_simp
        replace HS0 := Lib.hid (HS0.out.alloc HS0.out.size (.cells (zcells 32) 5))
        replace HM := Lib.hid HM.out.push
        obtain ⟨V0acb, hVn⟩ : ∃ V, V0ac.alloc (.cells (zcells 32) 5) = V := ⟨_, rfl⟩
        have HzV0acb := Lib.hid (show V0ac.heap.size < V0acb.heap.size by rw [← hVn]; simp)
        rw [hVn] at HS0 HM ⊢
        clear hVn
        try dsimp only
        refine ⟨HS0.out, ?_⟩
        try simp only [Act.put, List.getElem_toArray, List.getElem_cons_succ, List.getElem_cons_zero, List.setIfInBounds_toArray, List.set_cons_zero, List.set_cons_succ]
        refine anyI_one 3 (by kernel_rfl) rfl ?_
        try simp only [List.getElem_toArray, List.getElem_cons_succ, List.getElem_cons_zero]
        refine opE_step ?_
        rw [if_pos (by rfl)]
        go_simp
        have HR := Lib.hid (HM.out.row [V0.heap.size, V0ac.heap.size, V0a.heap.size] (by simp) (fun b hb => by simp only [List.mem_cons, List.not_mem_nil, or_false] at hb ⊢; rcases hb with rfl | rfl | rfl <;> simp) (by have hn := HM.out.nd; simp only [List.nodup_cons, List.mem_cons, List.not_mem_nil, or_false, not_or, List.nodup_nil, and_true, not_false_eq_true] at hn ⊢; omega))
        replace HS0 := Lib.hid (HS0.out.alloc HS0.out.size (.cells #[.slice (some ⟨V0.heap.size, 0, none⟩) 32 32, .slice (some ⟨V0ac.heap.size, 0, none⟩) 32 32, .slice (some ⟨V0a.heap.size, 0, none⟩) 32 32] 41))
        obtain ⟨V0acbr, hVn⟩ : ∃ V, V0acb.alloc (.cells #[.slice (some ⟨V0.heap.size, 0, none⟩) 32 32, .slice (some ⟨V0ac.heap.size, 0, none⟩) 32 32, .slice (some ⟨V0a.heap.size, 0, none⟩) 32 32] 41) = V := ⟨_, rfl⟩
        have HR2 : Hid (Rw w3.heap.size V0acbr V0acb.heap.size 3 3 (fun k => [V0.heap.size, V0ac.heap.size, V0a.heap.size].getD k 0) (fun _ => 32) [z32, z32, z32]) := Lib.hid (by rw [← hVn]; exact HR.out)
        rw [hVn] at HS0 ⊢
        clear hVn HR
        try dsimp only
        refine ⟨HS0.out, ?_⟩
        try simp only [Act.put, List.getElem_toArray, List.getElem_cons_succ, List.getElem_cons_zero, List.setIfInBounds_toArray, List.set_cons_zero, List.set_cons_succ]
        refine anyI_tail (by kernel_rfl) ?_
        try simp only [List.drop_succ_cons, List.drop_zero]
        clear R
        go_wp2_with fail
        refine NoPanic.normal ?_
        try simp only [Exit.then]
        refine ‹∀ (a : Act) (w : World), Met _ a w → _› _ _ ?_
        go_meet
        exact ⟨_, _, rfl, HR2.out, HS0.out⟩
    · try simp only [List.getElem_toArray, List.getElem_cons_succ, List.getElem_cons_zero]
      refine opE_step ?_
      rw [if_pos (by rfl)]
      go_simp
      replace HS0 := Lib.hid (HS0.out.alloc HS0.out.size (.cells (zcells 32) 5))
      replace HM := Lib.hid HM.out.push
      obtain ⟨V0b, hVn⟩ : ∃ V, V0.alloc (.cells (zcells 32) 5) = V := ⟨_, rfl⟩
      have HzV0b := Lib.hid (show V0.heap.size < V0b.heap.size by rw [← hVn]; simp)
      rw [hVn] at HS0 HM ⊢
      clear hVn
      try dsimp only
      refine ⟨HS0.out, ?_⟩
      try simp only [Act.put, List.getElem_toArray, List.getElem_cons_succ, List.getElem_cons_zero, List.setIfInBounds_toArray, List.set_cons_zero, List.set_cons_succ]
      refine anyI_two 0 2 (by kernel_rfl) rfl rfl ?_ ?_
      · try simp only [List.getElem_toArray, List.getElem_cons_succ, List.getElem_cons_zero]
        refine opE_step ?_
        rw [if_pos (by rfl)]
        go_simp
        replace HS0 := Lib.hid (HS0.out.alloc HS0.out.size (.cells (zcells 32) 5))
        replace HM := Lib.hid HM.out.push
        obtain ⟨V0ba, hVn⟩ : ∃ V, V0b.alloc (.cells (zcells 32) 5) = V := ⟨_, rfl⟩
        have HzV0ba := Lib.hid (show V0b.heap.size < V0ba.heap.size by rw [← hVn]; simp)
        rw [hVn] at HS0 HM ⊢
        clear hVn
        try dsimp only
        refine ⟨HS0.out, ?_⟩
        try simp only [Act.put, List.getElem_toArray, List.getElem_cons_succ, List.getElem_cons_zero, List.setIfInBounds_toArray, List.set_cons_zero, List.set_cons_succ]
        refine anyI_one 2 (by kernel_rfl) rfl ?_
        try simp only [List.getElem_toArray, List.getElem_cons_succ, List.getElem_cons_zero]
        refine opE_step ?_
        rw [if_pos (by rfl)]
        go_simp
        replace HS0 := Lib.hid (HS0.out.alloc HS0.out.size (.cells (zcells 32) 5))
        replace HM := Lib.hid HM.out.push
        obtain ⟨V0bac, hVn⟩ : ∃ V, V0ba.alloc (.cells (zcells 32) 5) = V := ⟨_, rfl⟩
        have HzV0bac := Lib.hid (show V0ba.heap.size < V0bac.heap.size by rw [← hVn]; simp)
        rw [hVn] at HS0 HM ⊢
        clear hVn
        try dsimp only
        refine ⟨HS0.out, ?_⟩
        try simp only [Act.put, List.getElem_toArray, List.getElem_cons_succ, List.getElem_cons_zero, List.setIfInBounds_toArray, List.set_cons_zero, List.set_cons_succ]
        refine anyI_one 3 (by kernel_rfl) rfl ?_
        try simp only [List.getElem_toArray, List.getElem_cons_succ, List.getElem_cons_zero]
        refine opE_step ?_
        rw [if_pos (by rfl)]
        go_simp
        have HR := Lib.hid (HM.out.row [V0b.heap.size, V0.heap.size, V0ba.heap.size] (by simp) (fun b hb => by simp only [List.mem_cons, List.not_mem_nil, or_false] at hb ⊢; rcases hb with rfl | rfl | rfl <;> simp) (by have hn := HM.out.nd; simp only [List.nodup_cons, List.mem_cons, List.not_mem_nil, or_false, not_or, List.nodup_nil, and_true, not_false_eq_true] at hn ⊢; omega))
        replace HS0 := Lib.hid (HS0.out.alloc HS0.out.size (.cells #[.slice (some ⟨V0b.heap.size, 0, none⟩) 32 32, .slice (some ⟨V0.heap.size, 0, none⟩) 32 32, .slice (some ⟨V0ba.heap.size, 0, none⟩) 32 32] 41))
        obtain ⟨V0bacr, hVn⟩ : ∃ V, V0bac.alloc (.cells #[.slice (some ⟨V0b.heap.size, 0, none⟩) 32 32, .slice (some ⟨V0.heap.size, 0, none⟩) 32 32, .slice (some ⟨V0ba.heap.size, 0, none⟩) 32 32] 41) = V := ⟨_, rfl⟩
        have HR2 : Hid (Rw w3.heap.size V0bacr V0bac.heap.size 3 3 (fun k => [V0b.heap.size, V0.heap.size, V0ba.heap.size].getD k 0) (fun _ => 32) [z32, z32, z32]) := Lib.hid (by rw [← hVn]; exact HR.out)
        rw [hVn] at HS0 ⊢
        clear hVn HR
        try dsimp only
        refine ⟨HS0.out, ?_⟩
        try simp only [Act.put, List.getElem_toArray, List.getElem_cons_succ, List.getElem_cons_zero, List.setIfInBounds_toArray, List.set_cons_zero, List.set_cons_succ]
        refine anyI_tail (by kernel_rfl) ?_
        try simp only [List.drop_succ_cons, List.drop_zero]
        clear R
        go_wp2_with fail
        refine NoPanic.normal ?_
        try simp only [Exit.then]
        refine ‹∀ (a : Act) (w : World), Met _ a w → _› _ _ ?_
        go_meet
        exact ⟨_, _, rfl, HR2.out, HS0.out⟩
      · try simp only [List.getElem_toArray, List.getElem_cons_succ, List.getElem_cons_zero]
        refine opE_step ?_
        rw [if_pos (by rfl)]
        go_simp
        replace HS0 := Lib.hid (HS0.out.alloc HS0.out.size (.cells (zcells 32) 5))
        replace HM := Lib.hid HM.out.push
        obtain ⟨V0bc, hVn⟩ : ∃ V, V0b.alloc (.cells (zcells 32) 5) = V := ⟨_, rfl⟩
        have HzV0bc := Lib.hid (show V0b.heap.size < V0bc.heap.size by rw [← hVn]; simp)
        rw [hVn] at HS0 HM ⊢
        clear hVn
        try dsimp only
        refine ⟨HS0.out, ?_⟩
        try simp only [Act.put, List.getElem_toArray, List.getElem_cons_succ, List.getElem_cons_zero, List.setIfInBounds_toArray, List.set_cons_zero, List.set_cons_succ]
        refine anyI_one 0 (by kernel_rfl) rfl ?_
        try simp only [List.getElem_toArray, List.getElem_cons_succ, List.getElem_cons_zero]
        refine opE_step ?_
        rw [if_pos (by rfl)]
        go_simp
        replace HS0 := Lib.hid (HS0.out.alloc HS0.out.size (.cells (zcells 32) 5))
        replace HM := Lib.hid HM.out.push
        obtain ⟨V0bca, hVn⟩ : ∃ V, V0bc.alloc (.cells (zcells 32) 5) = V := ⟨_, rfl⟩
        have HzV0bca := Lib.hid (show V0bc.heap.size < V0bca.heap.size by rw [← hVn]; simp)
        rw [hVn] at HS0 HM ⊢
        clear hVn
        try dsimp only
        refine ⟨HS0.out, ?_⟩
        try simp only [Act.put, List.getElem_toArray, List.getElem_cons_succ, List.getElem_cons_zero, List.setIfInBounds_toArray, List.set_cons_zero, List.set_cons_succ]
        refine anyI_one 3 (by kernel_rfl) rfl ?_
        try simp only [List.getElem_toArray, List.getElem_cons_succ, List.getElem_cons_zero]
        refine opE_step ?_
        rw [if_pos (by rfl)]
        go_simp
        have HR := Lib.hid (HM.out.row [V0bc.heap.size, V0.heap.size, V0b.heap.size] (by simp) (fun b hb => by simp only [List.mem_cons, List.not_mem_nil, or_false] at hb ⊢; rcases hb with rfl | rfl | rfl <;> simp) (by have hn := HM.out.nd; simp only [List.nodup_cons, List.mem_cons, List.not_mem_nil, or_false, not_or, List.nodup_nil, and_true, not_false_eq_true] at hn ⊢; omega))
        replace HS0 := Lib.hid (HS0.out.alloc HS0.out.size (.cells #[.slice (some ⟨V0bc.heap.size, 0, none⟩) 32 32, .slice (some ⟨V0.heap.size, 0, none⟩) 32 32, .slice (some ⟨V0b.heap.size, 0, none⟩) 32 32] 41))
        obtain ⟨V0bcar, hVn⟩ : ∃ V, V0bca.alloc (.cells #[.slice (some ⟨V0bc.heap.size, 0, none⟩) 32 32, .slice (some ⟨V0.heap.size, 0, none⟩) 32 32, .slice (some ⟨V0b.heap.size, 0, none⟩) 32 32] 41) = V := ⟨_, rfl⟩
        have HR2 : Hid (Rw w3.heap.size V0bcar V0bca.heap.size 3 3 (fun k => [V0bc.heap.size, V0.heap.size, V0b.heap.size].getD k 0) (fun _ => 32) [z32, z32, z32]) := Lib.hid (by rw [← hVn]; exact HR.out)
        rw [hVn] at HS0 ⊢
        clear hVn HR
        try dsimp only
        refine ⟨HS0.out, ?_⟩
        try simp only [Act.put, List.getElem_toArray, List.getElem_cons_succ, List.getElem_cons_zero, List.setIfInBounds_toArray, List.set_cons_zero, List.set_cons_succ]
        refine anyI_tail (by kernel_rfl) ?_
        try simp only [List.drop_succ_cons, List.drop_zero]
        clear R
        go_wp2_with fail
        refine NoPanic.normal ?_
        try simp only [Exit.then]
        refine ‹∀ (a : Act) (w : World), Met _ a w → _› _ _ ?_
        go_meet
        exact ⟨_, _, rfl, HR2.out, HS0.out⟩
    · try simp only [List.getElem_toArray, List.getElem_cons_succ, List.getElem_cons_zero]
      refine opE_step ?_
      rw [if_pos (by rfl)]
      go_simp
      replace HS0 := Lib.hid (HS0.out.alloc HS0.out.size (.cells (zcells 32) 5))
      replace HM := Lib.hid HM.out.push
      obtain ⟨V0c, hVn⟩ : ∃ V, V0.alloc (.cells (zcells 32) 5) = V := ⟨_, rfl⟩
      have HzV0c := Lib.hid (show V0.heap.size < V0c.heap.size by rw [← hVn]; simp)
      rw [hVn] at HS0 HM ⊢
      clear hVn
      try dsimp only
      refine ⟨HS0.out, ?_⟩
      try simp only [Act.put, List.getElem_toArray, List.getElem_cons_succ, List.getElem_cons_zero, List.setIfInBounds_toArray, List.set_cons_zero, List.set_cons_succ]
      refine anyI_two 0 1 (by kernel_rfl) rfl rfl ?_ ?_
      · try simp only [List.getElem_toArray, List.getElem_cons_succ, List.getElem_cons_zero]
        refine opE_step ?_
        rw [if_pos (by rfl)]
        go_simp
        replace HS0 := Lib.hid (HS0.out.alloc HS0.out.size (.cells (zcells 32) 5))
        replace HM := Lib.hid HM.out.push
        obtain ⟨V0ca, hVn⟩ : ∃ V, V0c.alloc (.cells (zcells 32) 5) = V := ⟨_, rfl⟩
        have HzV0ca := Lib.hid (show V0c.heap.size < V0ca.heap.size by rw [← hVn]; simp)
        rw [hVn] at HS0 HM ⊢
        clear hVn
        try dsimp only
        refine ⟨HS0.out, ?_⟩
        try simp only [Act.put, List.getElem_toArray, List.getElem_cons_succ, List.getElem_cons_zero, List.setIfInBounds_toArray, List.set_cons_zero, List.set_cons_succ]
        refine anyI_one 1 (by kernel_rfl) rfl ?_
        try simp only [List.getElem_toArray, List.getElem_cons_succ, List.getElem_cons_zero]
        refine opE_step ?_
        rw [if_pos (by rfl)]
        go_simp
        replace HS0 := Lib.hid (HS0.out.alloc HS0.out.size (.cells (zcells 32) 5))
        replace HM := Lib.hid HM.out.push
        obtain ⟨V0cab, hVn⟩ : ∃ V, V0ca.alloc (.cells (zcells 32) 5) = V := ⟨_, rfl⟩
        have HzV0cab := Lib.hid (show V0ca.heap.size < V0cab.heap.size by rw [← hVn]; simp)
        rw [hVn] at HS0 HM ⊢
        clear hVn
        try dsimp only
        refine ⟨HS0.out, ?_⟩
        try simp only [Act.put, List.getElem_toArray, List.getElem_cons_succ, List.getElem_cons_zero, List.setIfInBounds_toArray, List.set_cons_zero, List.set_cons_succ]
        refine anyI_one 3 (by kernel_rfl) rfl ?_
        try simp only [List.getElem_toArray, List.getElem_cons_succ, List.getElem_cons_zero]
        refine opE_step ?_
        rw [if_pos (by rfl)]
        go_simp
        have HR := Lib.hid (HM.out.row [V0c.heap.size, V0ca.heap.size, V0.heap.size] (by simp) (fun b hb => by simp only [List.mem_cons, List.not_mem_nil, or_false] at hb ⊢; rcases hb with rfl | rfl | rfl <;> simp) (by have hn := HM.out.nd; simp only [List.nodup_cons, List.mem_cons, List.not_mem_nil, or_false, not_or, List.nodup_nil, and_true, not_false_eq_true] at hn ⊢; omega))
        replace HS0 := Lib.hid (HS0.out.alloc HS0.out.size (.cells #[.slice (some ⟨V0c.heap.size, 0, none⟩) 32 32, .slice (some ⟨V0ca.heap.size, 0, none⟩) 32 32, .slice (some ⟨V0.heap.size, 0, none⟩) 32 32] 41))
        obtain ⟨V0cabr, hVn⟩ : ∃ V, V0cab.alloc (.cells #[.slice (some ⟨V0c.heap.size, 0, none⟩) 32 32, .slice (some ⟨V0ca.heap.size, 0, none⟩) 32 32, .slice (some ⟨V0.heap.size, 0, none⟩) 32 32] 41) = V := ⟨_, rfl⟩
        have HR2 : Hid (Rw w3.heap.size V0cabr V0cab.heap.size 3 3 (fun k => [V0c.heap.size, V0ca.heap.size, V0.heap.size].getD k 0) (fun _ => 32) [z32, z32, z32]) := Lib.hid (by rw [← hVn]; exact HR.out)
        rw [hVn] at HS0 ⊢
        clear hVn HR
        try dsimp only
        refine ⟨HS0.out, ?_⟩
        try simp only [Act.put, List.getElem_toArray, List.getElem_cons_succ, List.getElem_cons_zero, List.setIfInBounds_toArray, List.set_cons_zero, List.set_cons_succ]
        refine anyI_tail (by kernel_rfl) ?_
        try simp only [List.drop_succ_cons, List.drop_zero]
        clear R
        go_wp2_with fail
        refine NoPanic.normal ?_
        try simp only [Exit.then]
        refine ‹∀ (a : Act) (w : World), Met _ a w → _› _ _ ?_
        go_meet
        exact ⟨_, _, rfl, HR2.out, HS0.out⟩
      · try simp only [List.getElem_toArray, List.getElem_cons_succ, List.getElem_cons_zero]
        refine opE_step ?_
        rw [if_pos (by rfl)]
        go_simp
        replace HS0 := Lib.hid (HS0.out.alloc HS0.out.size (.cells (zcells 32) 5))
        replace HM := Lib.hid HM.out.push
        obtain ⟨V0cb, hVn⟩ : ∃ V, V0c.alloc (.cells (zcells 32) 5) = V := ⟨_, rfl⟩
        have HzV0cb := Lib.hid (show V0c.heap.size < V0cb.heap.size by rw [← hVn]; simp)
        rw [hVn] at HS0 HM ⊢
        clear hVn
        try dsimp only
        refine ⟨HS0.out, ?_⟩
        try simp only [Act.put, List.getElem_toArray, List.getElem_cons_succ, List.getElem_cons_zero, List.setIfInBounds_toArray, List.set_cons_zero, List.set_cons_succ]
        refine anyI_one 0 (by kernel_rfl) rfl ?_
        try simp only [List.getElem_toArray, List.getElem_cons_succ, List.getElem_cons_zero]
        refine opE_step ?_
        rw [if_pos (by rfl)]
        go_simp
        replace HS0 := Lib.hid (HS0.out.alloc HS0.out.size (.cells (zcells 32) 5))
        replace HM := Lib.hid HM.out.push
        obtain ⟨V0cba, hVn⟩ : ∃ V, V0cb.alloc (.cells (zcells 32) 5) = V := ⟨_, rfl⟩
        have HzV0cba := Lib.hid (show V0cb.heap.size < V0cba.heap.size by rw [← hVn]; simp)
        rw [hVn] at HS0 HM ⊢
        clear hVn
        try dsimp only
        refine ⟨HS0.out, ?_⟩
        try simp only [Act.put, List.getElem_toArray, List.getElem_cons_succ, List.getElem_cons_zero, List.setIfInBounds_toArray, List.set_cons_zero, List.set_cons_succ]
        refine anyI_one 3 (by kernel_rfl) rfl ?_
        try simp only [List.getElem_toArray, List.getElem_cons_succ, List.getElem_cons_zero]
        refine opE_step ?_
        rw [if_pos (by rfl)]
        go_simp
        have HR := Lib.hid (HM.out.row [V0cb.heap.size, V0c.heap.size, V0.heap.size] (by simp) (fun b hb => by simp only [List.mem_cons, List.not_mem_nil, or_false] at hb ⊢; rcases hb with rfl | rfl | rfl <;> simp) (by have hn := HM.out.nd; simp only [List.nodup_cons, List.mem_cons, List.not_mem_nil, or_false, not_or, List.nodup_nil, and_true, not_false_eq_true] at hn ⊢; omega))
        replace HS0 := Lib.hid (HS0.out.alloc HS0.out.size (.cells #[.slice (some ⟨V0cb.heap.size, 0, none⟩) 32 32, .slice (some ⟨V0c.heap.size, 0, none⟩) 32 32, .slice (some ⟨V0.heap.size, 0, none⟩) 32 32] 41))
        obtain ⟨V0cbar, hVn⟩ : ∃ V, V0cba.alloc (.cells #[.slice (some ⟨V0cb.heap.size, 0, none⟩) 32 32, .slice (some ⟨V0c.heap.size, 0, none⟩) 32 32, .slice (some ⟨V0.heap.size, 0, none⟩) 32 32] 41) = V := ⟨_, rfl⟩
        have HR2 : Hid (Rw w3.heap.size V0cbar V0cba.heap.size 3 3 (fun k => [V0cb.heap.size, V0c.heap.size, V0.heap.size].getD k 0) (fun _ => 32) [z32, z32, z32]) := Lib.hid (by rw [← hVn]; exact HR.out)
        rw [hVn] at HS0 ⊢
        clear hVn HR
        try dsimp only
        refine ⟨HS0.out, ?_⟩
        try simp only [Act.put, List.getElem_toArray, List.getElem_cons_succ, List.getElem_cons_zero, List.setIfInBounds_toArray, List.set_cons_zero, List.set_cons_succ]
        refine anyI_tail (by kernel_rfl) ?_
        try simp only [List.drop_succ_cons, List.drop_zero]
        clear R
        go_wp2_with fail
        refine NoPanic.normal ?_
        try simp only [Exit.then]
        refine ‹∀ (a : Act) (w : World), Met _ a w → _› _ _ ?_
        go_meet
        exact ⟨_, _, rfl, HR2.out, HS0.out⟩
  case rest =>
    clear hmk
    obtain ⟨g, bk, rfl, hrw, hb⟩ := hcut
    have HE : Hid (ErS w g 3 bk (fun _ => 32) v1 b0 [z32, z32, z32] wc) := Lib.hid ⟨O3.out.below hb, hrw.le F3.out.size, fun k e => ⟨by have := (O3.out.lt k e).2; have := hrw.glt.1; omega, fun j hj => by have := (O3.out.lt k e).2; have := (hrw.blt j hj).1; omega⟩, F3.out.trans (hb.mono F3.out.size)⟩
    clear hrw hb O3 F3
    go_upto_block 0 with fail
    refine wp_block ?_
    refine erR _ _ _ _ _ _ _ _ _ _ _ _ _ _ _ _ _ _ _ _ _ _ _ _ _ _ _ _ _ _ _ _ _ _ _ _ _ _ _ _ _ _ _ _ _ _ _ _ _ _ _ _ _ _ _ HI.out HL.out HB0.out HM0.out ⟨Nat.zero_le _, by rw [List.take_zero, show plcB [] = [] from rfl, List.append_nil]; exact HE.out⟩ (fun v8 v9 v31 v32 v33 v34 v35 v36 v37 v38 v39 v40 v41 v42 v43 v44 v45 v46 v47 v48 v49 v50 v51 j v V hI hx => ?_)
    subst hx
    obtain ⟨_, hst⟩ := hI
    rw [List.take_length, ← HH.out] at hst
    have HS := Lib.hid hst
    have CF := Lib.hid (refFull_n v (hdB s l) (9 + 2 * l.length) w.heap.size V hst.1 HZ.out (by have := HL.out; omega) hst.2.2.2.size)
    have hlen : (hdB s l ++ List.replicate (32 - (9 + 2 * l.length)) 0).length = 32 := by rw [List.length_append, HZ.out, List.length_replicate]; have := HL.out; omega
    generalize hdB s l ++ List.replicate (32 - (9 + 2 * l.length)) 0 = fb at CF hlen HB
    have HFl := Lib.hid hlen
    clear hst hlen HE HI HM0 HB0 HZ HH
    go_wp2_with fail
    (with_reducible refine CF.out.mono ?_); rintro e w5 ⟨v5, rfl, o5, g5⟩
    have HP5 := Lib.hid (HS.out.2.1.grown g5 (fun e => (HS.out.2.2.1 g e).1 rfl) (fun k hk e => (HS.out.2.2.1 _ e).2 k hk rfl))
    have F5 := Lib.hid (HS.out.2.2.2.grown g5 HS.out.2.2.2.size (fun k e => (HS.out.1.lt k e).1))
    obtain ⟨A5, c5, rfl, hc5, hr5⟩ := o5.rd
    have CS := Lib.hid (refSealed_n A5 (some ⟨g, 0, none⟩) fb.length c5 3 fb (partsB l) 3 w5 HFl.out HPl.out (by omega) HFl.out hr5 HP5.out.rdc.rdr)
    have HSl := Lib.hid (stamped_len fb (partsB l) HFl.out)
    generalize stamped fb (partsB l) = st at CS HSl HB
    generalize fb.length = fl at CS
    clear o5 g5 hc5 hr5 CF HS HFl
    go_wp2_with fail
    (with_reducible refine CS.out.mono ?_); rintro e w6 ⟨v6, rfl, o6, hb6⟩
    obtain ⟨gs, cs, rfl, hBg, hglt, hcap, hcm, _⟩ := o6.pos (by rw [HSl.out]; omega)
    rw [HSl.out] at o6 hcap ⊢
    have HP6 := Lib.hid (HP5.out.below hb6)
    have F6 := Lib.hid (F5.out.trans (hb6.mono F5.out.size))
    have HO6 := Lib.hid (o6.le F5.out.size)
    have HGS := Lib.hid (show ∀ k, k < 3 → gs ≠ bk k from fun k hk => by have := (HP5.out.blt k hk).2; omega)
    have B7 := below1 w6 (.cells #[.slice (some ⟨gs, 0, none⟩) 32 cs] 41)
    have HB7 := Lib.hid B7
    have HOW := Lib.hid (World.ownsRow_lit (base := w.heap.size) (e := 41) (size := 1) w6 #[.slice (some ⟨gs, 0, none⟩) 32 cs] 1 F6.out.size (by unfold maxLen; omega) rfl)
    have HV := Lib.hid ((HP6.out.below B7).rdv)
    have hz7 : w.heap.size ≤ (w6.alloc (.cells #[.slice (some ⟨gs, 0, none⟩) 32 cs] 41)).heap.size := Nat.le_trans F6.out.size B7.size
    have Hz7 := Lib.hid hz7
    clear B7 hz7 o6 hb6 hBg hglt hcap hcm CS HP5 F5
    go_wp2_with (
      (at_builtin
       refine wpList_append_V (by rfl) _ _ _ (by rfl) w.heap.size 41 (.slice none 0 0) 24 Tryd.underlying57 info_row rfl (.slice (some ⟨w6.heap.size, 0, none⟩) 1 1) 1 [.slice (some ⟨gs, 0, none⟩) 32 cs] (by rfl) HOW.out _ (some ⟨g, 0, none⟩) 3 3 (rwvs bk (fun _ => 32) 3) (by rfl) (by rfl) HV.out (rwvs_one _ _ _) (by unfold maxLen; omega) (by omega) Hz7.out ?_
       intro v8 w8 r8 g8 hat8
       have F8 := Lib.hid (HB7.out.grown g8 HB7.out.size (fun k e => by
         have e2 : w6.heap.size = k := by injection e with e
         omega))
       obtain ⟨g9, cap9, bk9, cp9, rfl, hR9⟩ := rw_cons HP6.out HO6.out HSl.out HGS.out (by omega) r8 F8.out (fun q hq => by
         rcases hat8 with h | h
         · rw [h] at hq
           have e2 : w6.heap.size = q := by injection hq
           omega
         · rw [h] at hq
           have e2 : (w6.alloc (.cells #[.slice (some ⟨gs, 0, none⟩) 32 cs] 41)).heap.size = q := by injection hq
           have := HB7.out.size
           omega)
       have HR9 := Lib.hid hR9
       clear hR9))
    go_ret2
    exact ⟨_, _, _, _, rfl, by rw [HB.out]; exact HR9.out, F6.out.trans (F8.out.mono F6.out.size)⟩
end Go.Proofs.YtoomdgidpplpfaaDoor
