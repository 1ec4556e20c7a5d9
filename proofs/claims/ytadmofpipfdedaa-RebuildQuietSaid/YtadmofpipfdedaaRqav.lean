/- Texts put together: BchNew, BchClone. -/
import Derived.Test.YtadmofpipfdedaaRqau
section
set_option linter.unusedSimpArgs false
namespace Go.Proofs.Ytadmofpipfdedaa
open Go.RowKit

theorem build_bch (g n : Nat) (w : World) : (Instr.build 40 #[(1, .slice (some ⟨g, 0, none⟩) n n)]).run Try.prog w = .ok (.agg (bcells g n 0 0 false).toArray) w := by kernel_rfl
set_option maxHeartbeats 800000 in
theorem bch_new_ok (n : Nat) (w : World) (hn : 1 ≤ n ∧ n ≤ 8) : Calls Try.prog 25 #[.int .i64 (n : Int)] w fun e w' => ∃ b H, e = .returned (.tuple #[ptr b, .int .i64 0]) ∧ BAt w' w.heap.size b H (Bch.new n) ∧ Below w.heap.size w w' := by
  have hmk := make_pdisks n (by omega) (fun _ => 0)
  have hbd := build_bch
  obtain ⟨n1, n8⟩ := hn
  have i1 : (1 : Int) ≤ (n : Int) := by omega
  have i8 : (n : Int) ≤ 8 := by omega
  go_enter Try.func25, Try.ntmps25
  go_wp2_with ((refine wpList_build_run rfl 40 #[(1, .tmp 13)] (by rfl) #[(1, .slice (some ⟨w.heap.size, 0, none⟩) n n)] (by rfl) (.agg (bcells w.heap.size n 0 0 false).toArray) (hbd _ _ _) ?_))
  have hp0 : PAt ((w.alloc (.cells (rowk n 0 fun _ => 0).toArray 74)).alloc (.cells #[.int .i64 0, .int .i64 0, .bool false, .slice (some ⟨w.heap.size, 0, none⟩) n n] 40)) w.heap.size (w.heap.size + 1) ⟨w.heap.size, fun _ => 0, fun _ => .slice none 0 0⟩ ⟨n, fun _ => Dsk.new, 0, 0, false⟩ 0 :=
    ⟨hp_new _ _ _ (by simp), (hp_old _ _ _ (by simp)).trans (hp_new _ _ _ rfl), fun i hi => by omega, ⟨by omega, Nat.le_refl _⟩, by show w.heap.size + 1 ≠ w.heap.size; omega, fun i hi => by omega, fun i j hi => by omega⟩
  have hb0 := below2 w (.cells (rowk n 0 fun _ => 0).toArray 74) (.cells #[.int .i64 0, .int .i64 0, .bool false, .slice (some ⟨w.heap.size, 0, none⟩) n n] 40)
  generalize (w.alloc (.cells (rowk n 0 fun _ => 0).toArray 74)).alloc (.cells #[.int .i64 0, .int .i64 0, .bool false, .slice (some ⟨w.heap.size, 0, none⟩) n n] 40) = w0 at hp0 hb0 ⊢
  generalize hB : w.heap.size = B at hp0 hb0 ⊢
  have HB := Lib.hid hB
  clear hmk hbd hB
  go_wp2_with fail
  go_loopw [21] (fun i wr => ∃ (k : Nat) (bk : Nat → Nat) (pv : Nat → Value), k ≤ n ∧ i = .int .i64 k ∧ PAt wr B (B + 1) ⟨B, bk, pv⟩ ⟨n, fun _ => Dsk.new, 0, 0, false⟩ k ∧ Below B w wr) (fun i _ => n - (intOf i).toNat)
  case atStart => exact ⟨0, _, _, Nat.zero_le _, rfl, hp0, hb0⟩
  case round =>
    clear hp0 hb0
    obtain ⟨k, bk, pv, hk, rfl, hp, hb⟩ := hrel
    by_cases hlt : k < n
    · have i2 : (0 : Int) ≤ (k : Int) := by omega
      have i3 : (k : Int) < (n : Int) := by omega
      have Hp := Lib.hid hp
      have Hb := Lib.hid hb
      have Hl := Lib.hid hp.lt
      have HC := Lib.hid (fun V (hV : Below wr.heap.size wr V) => (show V.cell? ⟨B + 1, 3, none⟩ = some (.slice (some ⟨B, 0, none⟩) n n) by rw [cell_of_row _ _ _ _ _ _ (hp.below hV).blk]; rfl))
      clear hp hb
      go_wp2
      refine wp_region_noPanic (region_ord 6 [] (fun V => Below wr.heap.size wr V) (by kernel_rfl) (by kernel_rfl) (fun _ _ _ _ _ h => h) fun R => ?_)
      change anyI _ _ _ _ _ _ 8 _ _ wr.drew
      have HS0 := Lib.hid ((Below.refl wr.heap.size wr).drew)
      refine anyI_take R 0 rfl (v := (.pointer (some ⟨B + 1, 0, none⟩))) (by kernel_rfl) (by rfl) (fun V hV => by go_simp) HS0.out ?_
      try simp only [Act.put, List.getElem_toArray, List.getElem_cons_zero, List.setIfInBounds_toArray, List.set_cons_zero, List.set_cons_succ]
      refine anyI_take R 1 rfl (v := (.pointer (some ⟨B + 1, 0, none⟩))) (by kernel_rfl) (by rfl) (fun V hV => by go_simp) HS0.out ?_
      try simp only [Act.put, List.getElem_toArray, List.getElem_cons_succ, List.getElem_cons_zero, List.setIfInBounds_toArray, List.set_cons_zero, List.set_cons_succ]
      refine anyI_take R 2 rfl (v := (.pointer (some ⟨B + 1, 3, none⟩))) (by kernel_rfl) (by rfl) (fun V hV => by go_simp) HS0.out ?_
      try simp only [Act.put, List.getElem_toArray, List.getElem_cons_succ, List.getElem_cons_zero, List.setIfInBounds_toArray, List.set_cons_zero, List.set_cons_succ]
      refine anyI_take R 3 rfl (v := (.slice (some ⟨B, 0, none⟩) n n)) (by kernel_rfl) (by rfl) (fun V hV => by have hc := HC.out V hV; go_simp) HS0.out ?_
      try simp only [Act.put, List.getElem_toArray, List.getElem_cons_succ, List.getElem_cons_zero, List.setIfInBounds_toArray, List.set_cons_zero, List.set_cons_succ]
      refine anyI_take R 4 rfl (v := (.int .i64 (k : Int))) (by kernel_rfl) (by rfl) (fun V hV => by go_simp) HS0.out ?_
      try simp only [Act.put, List.getElem_toArray, List.getElem_cons_succ, List.getElem_cons_zero, List.setIfInBounds_toArray, List.set_cons_zero, List.set_cons_succ]
      refine anyI_one 5 (by kernel_rfl) rfl ?_
      try simp only [List.getElem_toArray, List.getElem_cons_succ, List.getElem_cons_zero]
      refine opE_step ?_
      rw [if_pos (by rfl)]
      go_simp
      go_at_call 43
      refine (dsk_new_any wr.drew).mono ?_
      rintro e w6 ⟨rfl, hd, hb6⟩
      dsimp only
      have hb6' : Below wr.heap.size wr w6 := HS0.out.trans hb6
      refine ⟨hb6', ?_⟩
      try simp only [Act.put, List.getElem_toArray, List.getElem_cons_succ, List.getElem_cons_zero, List.setIfInBounds_toArray, List.set_cons_zero, List.set_cons_succ]
      refine anyI_tail (by kernel_rfl) ?_
      simp only [List.drop_succ_cons, List.drop_zero]
      clear R
      have Hrow := Lib.hid ((Hp.out.below hb6').row)
      have Hd := Lib.hid hd
      have Hb6 := Lib.hid hb6'
      clear hd hb6 hb6' HS0 HC
      go_wp2_with (refine wpList_store_blk rfl 74 _ _ (by rfl) B k (.pointer (some ⟨wr.heap.size, 0, none⟩)) (by rfl) (by rfl) (rowk n k bk) 74 Hrow.out [.pointer (some ⟨wr.heap.size, 0, none⟩)] (by rfl) 1 rfl size_pdisk (by rw [rowk_len]; omega) (by intro u hu; simp at hu; subst hu; rfl) _ rfl ?_; intro w7 h7 hg7)
      refine NoPanic.normal ?_
      have hc7 := (chg_grown hg7).mono (G := fun j => j = B) fun i _ e => by injection e with e; exact e.symm
      have Hn := Lib.hid (Hp.out.next hlt (by have := Hl.out; omega) Hb6.out Hd.out h7 hc7)
      have Hbb := Lib.hid (show Below B w w7 from (Hb.out.trans (Hb6.out.mono (by have := Hl.out; omega))).trans (hc7.below (fun j e => by omega) (by have := Hl.out; have := Hb6.out.size; omega)))
      clear h7 hg7 hc7 Hrow Hd Hb6
      go_wp2_with fail
      go_roundw
      case rel => exact ⟨k + 1, _, _, by omega, by go_num, Hn.out, Hbb.out⟩
      case measure => simp [intOf]; omega
    · obtain rfl : k = n := by omega
      have ha := hp.full ⟨⟨n1, n8⟩, by show (-1 : Int) ≤ 0 ∧ (0 : Int) ≤ 9223372036854775807; omega⟩
      have CR := Lib.hid (bch_restore_any B (B + 1) _ _ wr ha)
      have Hb := Lib.hid hb
      have Ha := Lib.hid (fun j (hj : BF (B + 1) ⟨B, bk, pv⟩ k j) => ha.flt hj)
      clear hp hb ha
      unfold ptr at CR
      go_wp2_with fail
      refine CR.out.mono ?_
      rintro e w2 ⟨rfl, H2, a2, c2, _, m2⟩
      go_wp2
      go_ret2
      have hs := HB.out
      rw [hs]
      exact ⟨B + 1, H2, rfl, a2, Hb.out.trans (c2.below (fun j hj => (Ha.out j hj).1) (by have := Hb.out.size; omega))⟩
/-- One disk is another one. -/
theorem BAt.swap {w w1 w2 : World} {B b : Nat} {H : BH} {N : Bch} (h : BAt w B b H N) {i b' : Nat} {pv' : Value} {X : Dsk} (hi : i < N.n) (hB : B ≤ w.heap.size) (hb : Below w.heap.size w w1) (hd : DskAt w1 w.heap.size b' pv' X) (hr : w2.heap[H.g]? = some (.cells (spl (prow N.n H.bk) i [ptr b']).toArray 74 (0, 0))) (hc : Chg (fun j => j = H.g) w1 w2) :
    BTo w w2 B b H N.n (N.set i X) := by
  have h1 := h.below hb
  have hnew : ∀ j, DF b' pv' j → w.heap.size ≤ j := fun j hj => DF.le hd hj
  have hl := h.lt
  have hgl := h.glt
  refine ⟨{ H with bk := upd H.bk i b', pv := upd H.pv i pv' }, ⟨?_, ?_, ?_, h.le, h.ne, ?_, ?_, ⟨h.ok.n, h.ok.left⟩⟩, (chg_below _ hb).trans hc fun j _ e => .inr (.inl e), ⟨rfl, rfl⟩, ?_⟩
  · exact (hc.block b h1.lt h.ne).trans h1.blk
  · show w2.heap[H.g]? = _
    rw [hr, prow_set _ _ hi]
    rfl
  · intro j hj
    show DskAt w2 B (upd H.bk i b' j) (upd H.pv i pv' j) (upd N.D i X j)
    by_cases e : j = i
    · subst e
      rw [upd_same, upd_same, upd_same]
      exact (hd.mono hB).chg hc (fun e => by have := hnew b' (.inl rfl); omega) fun k hk e => by have := hnew k (.inr hk); omega
    · rw [upd_other _ _ e, upd_other _ _ e, upd_other _ _ e]
      exact (h1.dsk j hj).chg hc (fun e2 => (h.off j hj _ (.inl rfl)).2 e2) fun k hk e2 => (h.off j hj k (.inr hk)).2 e2
  · intro j hj k
    show DF (upd H.bk i b' j) (upd H.pv i pv' j) k → _ ∧ k ≠ H.g
    by_cases e : j = i
    · subst e
      rw [upd_same, upd_same]
      intro hk
      have := hnew k hk
      omega
    · rw [upd_other _ _ e, upd_other _ _ e]; exact h.off j hj k
  · intro j l hj hlt hjl
    show Apart (upd H.bk i b' j) (upd H.pv i pv' j) (upd H.bk i b' l) (upd H.pv i pv' l)
    by_cases e : j = i
    · subst e
      rw [upd_same, upd_same, upd_other _ _ (fun e => hjl e.symm), upd_other _ _ (fun e => hjl e.symm)]
      intro m h2 h3
      have := hnew m h2
      have := ((h.dsk l hlt).flt h3).2
      omega
    · rw [upd_other _ _ e, upd_other _ _ e]
      by_cases e2 : l = i
      · subst e2
        rw [upd_same, upd_same]
        intro m h2 h3
        have := hnew m h3
        have := ((h.dsk j hj).flt h2).2
        omega
      · rw [upd_other _ _ e2, upd_other _ _ e2]
        exact h.ap j l hj hlt hjl
  · intro k hk
    rcases hk with e | e | ⟨j, hj, e⟩
    · exact .inl (.inl e)
    · exact .inl (.inr (.inl e))
    · revert e
      show DF (upd H.bk i b' j) (upd H.pv i pv' j) k → _
      by_cases e2 : j = i
      · subst e2
        rw [upd_same, upd_same]
        exact fun e => .inr (hnew k e)
      · rw [upd_other _ _ e2, upd_other _ _ e2]
        exact fun e => .inl (.inr (.inr ⟨j, hj, e⟩))
theorem BAt.base {w : World} {B b : Nat} {H : BH} {N : Bch} (h : BAt w B b H N) : B ≤ w.heap.size := by have := h.le; have := h.lt; omega
set_option maxHeartbeats 800000 in
theorem bch_replace_any (B b : Nat) (H : BH) (N : Bch) (w : World) (h : BAt w B b H N) (d : Int) (hd : i64B d) : Calls Try.prog 16 #[ptr b, .int .i64 d] w fun e w' => e = .returned (.int .i64 (N.replaceE d)) ∧ BTo w w' B b H N.n (N.replace d) := by
  have Hh := Lib.hid h
  have CP := Lib.hid (bch_pick_any B b H N w h d hd)
  by_cases h0 : N.pickE d = 0
  · rw [h0, dptr_ok] at CP
    have hi := Bch.pickE_zero h0
    obtain ⟨j, rfl⟩ : ∃ j : Nat, d = (j : Int) := ⟨d.toNat, by omega⟩
    have hjn : j < N.n := by omega
    have CF := dsk_failed_any _ _ _ _ w (h.dsk j hjn)
    by_cases hf : (N.D j).f = true
    · rw [hf] at CF
      have CF := Lib.hid CF
      have HE := Lib.hid (show N.replaceE (j : Int) = 0 by unfold Bch.replaceE; rw [if_neg (show ¬ N.pickE (j : Int) ≠ 0 by simp [h0]), if_pos (show (N.at_ (j : Int)).f = true from hf)])
      have HR := Lib.hid (show N.replace (j : Int) = N.set j Dsk.new by unfold Bch.replace; rw [if_neg (by rw [HE.out]; simp)]; rfl)
      have HC := Lib.hid (fun V (hV : Below w.heap.size w V) => (h.below hV).cell 3 _ rfl)
      have i2 : (0 : Int) ≤ (j : Int) := by omega
      have i3 : (j : Int) < (N.n : Int) := by omega
      rw [Int.toNat_natCast] at CP
      have hbs := h.base
      clear h h0 hi hf
      unfold ptr at CP ⊢
      go_enter Try.func16, Try.ntmps16
      go_wp2_with fail
      refine CP.out.mono ?_
      rintro e w ⟨rfl, rfl⟩
      go_wp2_with fail
      refine CF.out.mono ?_
      rintro e w ⟨rfl, rfl⟩
      go_wp2_with fail
      refine wp_region_noPanic (region_ord 6 [] (fun V => Below w.heap.size w V) (by kernel_rfl) (by kernel_rfl) (fun _ _ _ _ _ h => h) fun R => ?_)
      change anyI _ _ _ _ _ _ 8 _ _ w.drew
      have HS0 := Lib.hid ((Below.refl w.heap.size w).drew)
      refine anyI_take R 0 rfl (v := (.pointer (some ⟨b, 0, none⟩))) (by kernel_rfl) (by rfl) (fun V hV => by go_simp) HS0.out ?_
      try simp only [Act.put, List.getElem_toArray, List.getElem_cons_zero, List.setIfInBounds_toArray, List.set_cons_zero, List.set_cons_succ]
      refine anyI_take R 1 rfl (v := (.pointer (some ⟨b, 0, none⟩))) (by kernel_rfl) (by rfl) (fun V hV => by go_simp) HS0.out ?_
      try simp only [Act.put, List.getElem_toArray, List.getElem_cons_succ, List.getElem_cons_zero, List.setIfInBounds_toArray, List.set_cons_zero, List.set_cons_succ]
      refine anyI_take R 2 rfl (v := (.pointer (some ⟨b, 3, none⟩))) (by kernel_rfl) (by rfl) (fun V hV => by go_simp) HS0.out ?_
      try simp only [Act.put, List.getElem_toArray, List.getElem_cons_succ, List.getElem_cons_zero, List.setIfInBounds_toArray, List.set_cons_zero, List.set_cons_succ]
      refine anyI_take R 3 rfl (v := (.slice (some ⟨H.g, 0, none⟩) N.n N.n)) (by kernel_rfl) (by rfl) (fun V hV => by have hc := HC.out V hV; go_simp) HS0.out ?_
      try simp only [Act.put, List.getElem_toArray, List.getElem_cons_succ, List.getElem_cons_zero, List.setIfInBounds_toArray, List.set_cons_zero, List.set_cons_succ]
      refine anyI_take R 4 rfl (v := (.int .i64 (j : Int))) (by kernel_rfl) (by rfl) (fun V hV => by go_simp) HS0.out ?_
      try simp only [Act.put, List.getElem_toArray, List.getElem_cons_succ, List.getElem_cons_zero, List.setIfInBounds_toArray, List.set_cons_zero, List.set_cons_succ]
      refine anyI_one 5 (by kernel_rfl) rfl ?_
      try simp only [List.getElem_toArray, List.getElem_cons_succ, List.getElem_cons_zero]
      refine opE_step ?_
      rw [if_pos (by rfl)]
      go_simp
      go_at_call 43
      refine (dsk_new_any w.drew).mono ?_
      rintro e w6 ⟨rfl, hd6, hb6⟩
      dsimp only
      have hb6' : Below w.heap.size w w6 := HS0.out.trans hb6
      refine ⟨hb6', ?_⟩
      try simp only [Act.put, List.getElem_toArray, List.getElem_cons_succ, List.getElem_cons_zero, List.setIfInBounds_toArray, List.set_cons_zero, List.set_cons_succ]
      refine anyI_tail (by kernel_rfl) ?_
      simp only [List.drop_succ_cons, List.drop_zero]
      clear R
      have Hrow := Lib.hid ((Hh.out.below hb6').row)
      have Hd := Lib.hid hd6
      have Hb6 := Lib.hid hb6'
      clear hd6 hb6 hb6' HS0 HC
      go_wp2_with (refine wpList_store_blk rfl 74 _ _ (by rfl) H.g j (.pointer (some ⟨w.heap.size, 0, none⟩)) (by rfl) (by rfl) (prow N.n H.bk) 74 Hrow.out [.pointer (some ⟨w.heap.size, 0, none⟩)] (by rfl) 1 rfl size_pdisk (by rw [prow_len]; omega) (by intro u hu; simp at hu; subst hu; rfl) _ rfl ?_; intro w7 h7 hg7)
      refine NoPanic.normal ?_
      have hc7 := (chg_grown hg7).mono (G := fun k => k = H.g) fun i _ e => by injection e with e; exact e.symm
      have Hn := Lib.hid (Hh.out.swap hjn hbs Hb6.out Hd.out h7 hc7)
      clear h7 hg7 hc7 Hrow Hd Hb6
      go_wp2
      go_ret
      exact ⟨by rw [HE.out]; rfl, by rw [HR.out]; exact Hn.out⟩
    · have hf' : (N.D j).f = false := by simpa using hf
      rw [hf'] at CF
      have CF := Lib.hid CF
      have HE := Lib.hid (show N.replaceE (j : Int) = 9 by unfold Bch.replaceE; rw [if_neg (show ¬ N.pickE (j : Int) ≠ 0 by simp [h0]), if_neg (show ¬ (N.at_ (j : Int)).f = true from hf)])
      have HR := Lib.hid (show N.replace (j : Int) = N by unfold Bch.replace; rw [if_pos (by rw [HE.out]; simp)])
      rw [Int.toNat_natCast] at CP
      clear h h0 hi hf hf'
      unfold ptr at CP ⊢
      go_enter Try.func16, Try.ntmps16
      go_wp2_with fail
      refine CP.out.mono ?_
      rintro e w ⟨rfl, rfl⟩
      go_wp2_with fail
      refine CF.out.mono ?_
      rintro e w ⟨rfl, rfl⟩
      go_wp2
      go_ret
      exact ⟨by rw [HE.out]; rfl, by rw [HR.out]; exact Hh.out.self⟩
  · have HE := Lib.hid (show N.replaceE d = N.pickE d by unfold Bch.replaceE; rw [if_pos h0])
    have HR := Lib.hid (show N.replace d = N by unfold Bch.replace; rw [if_pos (by rw [HE.out]; exact h0)])
    have hne : (N.pickE d != 0) = true := by rw [bne_iff_ne]; exact h0
    rw [dptr_no H d h0] at CP
    generalize N.pickE d = E at CP HE hne
    clear h h0
    unfold ptr at CP ⊢
    go_enter Try.func16, Try.ntmps16
    go_wp2_with fail
    refine CP.out.mono ?_
    rintro e w ⟨rfl, rfl⟩
    go_wp2
    go_ret
    exact ⟨by rw [HE.out]; rfl, by rw [HR.out]; exact Hh.out.self⟩
end Go.Proofs.Ytadmofpipfdedaa
end
section
set_option linter.unusedSimpArgs false
namespace Go.Proofs.Ytadmofpipfdedaa
open Go.RowKit

theorem build_bch2 (g n : Nat) (a l : Int) (d : Bool) (w : World) : (Instr.build 40 #[(0, .agg #[.int .i64 a, .int .i64 l, .bool d]), (1, .slice (some ⟨g, 0, none⟩) n n)]).run Try.prog w = .ok (.agg #[.int .i64 a, .int .i64 l, .bool d, .slice (some ⟨g, 0, none⟩) n n]) w := by kernel_rfl
set_option maxHeartbeats 800000 in
theorem bch_clone_any (B b : Nat) (H : BH) (N : Bch) (w : World) (h : BAt w B b H N) (hps : ∀ i, i < N.n → (N.D i).ps.length ≤ 2000000) :
    Calls Try.prog 13 #[ptr b] w fun e w' => ∃ b' H', e = .returned (ptr b') ∧ BAt w' w.heap.size b' H' N ∧ Below w.heap.size w w' := by
  have Hh := Lib.hid h
  have Hp := Lib.hid hps
  obtain ⟨n1, n8⟩ := h.ok.n
  have HC := Lib.hid (fun V (hV : Below w.heap.size w V) => (h.below hV).cell 3 _ rfl)
  have HL := Lib.hid (fun V (hV : Below w.heap.size w V) => And.intro ((h.below hV).cell 0 _ rfl) (And.intro ((h.below hV).cell 1 _ rfl) ((h.below hV).cell 2 _ rfl)))
  have hmk := make_pdisks N.n (by omega) (fun _ => 0)
  have hbd := build_bch2
  have hblt := h.lt
  have hc3 := h.cell 3 _ rfl
  clear h hps
  unfold ptr
  go_enter Try.func13, Try.ntmps13
  go_wp2_with fail
  refine wp_region_noPanic (region_ord 10 [] (fun V => Below w.heap.size w V) (by kernel_rfl) (by kernel_rfl) (fun _ _ _ _ _ h => h) fun R => ?_)
  change anyI _ _ _ _ _ _ 13 _ _ w.drew
  have HS0 := Lib.hid ((Below.refl w.heap.size w).drew)
  refine anyI_take R 0 rfl (v := (.pointer (some ⟨b, 0, none⟩))) (by kernel_rfl) (by rfl) (fun V hV => by go_simp) HS0.out ?_
  try simp only [Act.put, List.getElem_toArray, List.getElem_cons_zero, List.setIfInBounds_toArray, List.set_cons_zero, List.set_cons_succ]
  refine anyI_take R 1 rfl (v := (.pointer (some ⟨b, 0, none⟩))) (by kernel_rfl) (by rfl) (fun V hV => by go_simp) HS0.out ?_
  try simp only [Act.put, List.getElem_toArray, List.getElem_cons_succ, List.getElem_cons_zero, List.setIfInBounds_toArray, List.set_cons_zero, List.set_cons_succ]
  refine anyI_take R 2 rfl (v := (.pointer (some ⟨b, 0, none⟩))) (by kernel_rfl) (by rfl) (fun V hV => by go_simp) HS0.out ?_
  try simp only [Act.put, List.getElem_toArray, List.getElem_cons_succ, List.getElem_cons_zero, List.setIfInBounds_toArray, List.set_cons_zero, List.set_cons_succ]
  refine anyI_take R 3 rfl (v := (.agg #[.int .i64 (N.done : Int), .int .i64 N.left, .bool N.down])) (by kernel_rfl) (by rfl) (fun V hV => by obtain ⟨q0, q1, q2⟩ := HL.out V hV; go_simp) HS0.out ?_
  try simp only [Act.put, List.getElem_toArray, List.getElem_cons_succ, List.getElem_cons_zero, List.setIfInBounds_toArray, List.set_cons_zero, List.set_cons_succ]
  refine anyI_take R 4 rfl (v := (.pointer (some ⟨b, 0, none⟩))) (by kernel_rfl) (by rfl) (fun V hV => by go_simp) HS0.out ?_
  try simp only [Act.put, List.getElem_toArray, List.getElem_cons_succ, List.getElem_cons_zero, List.setIfInBounds_toArray, List.set_cons_zero, List.set_cons_succ]
  refine anyI_take R 5 rfl (v := (.pointer (some ⟨b, 0, none⟩))) (by kernel_rfl) (by rfl) (fun V hV => by go_simp) HS0.out ?_
  try simp only [Act.put, List.getElem_toArray, List.getElem_cons_succ, List.getElem_cons_zero, List.setIfInBounds_toArray, List.set_cons_zero, List.set_cons_succ]
  refine anyI_take R 6 rfl (v := (.pointer (some ⟨b, 3, none⟩))) (by kernel_rfl) (by rfl) (fun V hV => by go_simp) HS0.out ?_
  try simp only [Act.put, List.getElem_toArray, List.getElem_cons_succ, List.getElem_cons_zero, List.setIfInBounds_toArray, List.set_cons_zero, List.set_cons_succ]
  refine anyI_take R 7 rfl (v := (.slice (some ⟨H.g, 0, none⟩) N.n N.n)) (by kernel_rfl) (by rfl) (fun V hV => by have hc := HC.out V hV; go_simp) HS0.out ?_
  try simp only [Act.put, List.getElem_toArray, List.getElem_cons_succ, List.getElem_cons_zero, List.setIfInBounds_toArray, List.set_cons_zero, List.set_cons_succ]
  refine anyI_take R 8 rfl (v := (.int .i64 (N.n : Int))) (by kernel_rfl) (by rfl) (fun V hV => by go_simp) HS0.out ?_
  try simp only [Act.put, List.getElem_toArray, List.getElem_cons_succ, List.getElem_cons_zero, List.setIfInBounds_toArray, List.set_cons_zero, List.set_cons_succ]
  refine anyI_one 9 (by kernel_rfl) rfl ?_
  try simp only [List.getElem_toArray, List.getElem_cons_succ, List.getElem_cons_zero]
  refine opE_step ?_
  rw [if_pos (by rfl)]
  go_simp
  refine ⟨(HS0.out.alloc (Nat.le_refl _) _), ?_⟩
  try simp only [Act.put, List.getElem_toArray, List.getElem_cons_succ, List.getElem_cons_zero, List.setIfInBounds_toArray, List.set_cons_zero, List.set_cons_succ]
  refine anyI_tail (by kernel_rfl) ?_
  simp only [List.drop_succ_cons, List.drop_zero]
  clear R
  go_wp2_with ((refine wpList_build_run rfl 40 _ (by rfl) #[(0, .agg #[.int .i64 (N.done : Int), .int .i64 N.left, .bool N.down]), (1, .slice (some ⟨w.heap.size, 0, none⟩) N.n N.n)] (by rfl) (.agg #[.int .i64 (N.done : Int), .int .i64 N.left, .bool N.down, .slice (some ⟨w.heap.size, 0, none⟩) N.n N.n]) (hbd _ _ _ _ _ _) ?_))
  refine NoPanic.normal ?_
  have hp0 : PAt ((w.alloc (.cells (rowk N.n 0 fun _ => 0).toArray 74)).alloc (.cells #[.int .i64 (N.done : Int), .int .i64 N.left, .bool N.down, .slice (some ⟨w.heap.size, 0, none⟩) N.n N.n] 40)) w.heap.size (w.heap.size + 1) ⟨w.heap.size, fun _ => 0, fun _ => .slice none 0 0⟩ N 0 :=
    ⟨hp_new _ _ _ (by simp), (hp_old _ _ _ (by simp)).trans (hp_new _ _ _ rfl), fun i hi => by omega, ⟨by omega, Nat.le_refl _⟩, by show w.heap.size + 1 ≠ w.heap.size; omega, fun i hi => by omega, fun i j hi => by omega⟩
  have hb0 := below2 w (.cells (rowk N.n 0 fun _ => 0).toArray 74) (.cells #[.int .i64 (N.done : Int), .int .i64 N.left, .bool N.down, .slice (some ⟨w.heap.size, 0, none⟩) N.n N.n] 40)
  have hp1 := hp0.below ((Below.refl _ ((w.alloc (.cells (rowk N.n 0 fun _ => 0).toArray 74)).alloc (.cells #[.int .i64 (N.done : Int), .int .i64 N.left, .bool N.down, .slice (some ⟨w.heap.size, 0, none⟩) N.n N.n] 40))).drew)
  have hb1 := hb0.drew
  generalize ((w.alloc (.cells (rowk N.n 0 fun _ => 0).toArray 74)).alloc (.cells #[.int .i64 (N.done : Int), .int .i64 N.left, .bool N.down, .slice (some ⟨w.heap.size, 0, none⟩) N.n N.n] 40)).drew = w0 at hp1 hb1 ⊢
  have hc3 : w0.cell? ⟨b, 3, none⟩ = some (.slice (some ⟨H.g, 0, none⟩) N.n N.n) := HC.out _ hb1
  generalize hBe : w.heap.size = C at hp1 hb1 ⊢
  have HB := Lib.hid hBe
  clear hp0 hb0 hmk hbd hBe hblt HL HC HS0
  go_wp2_with fail
  go_loopw [23] (fun i wr => ∃ (k : Nat) (bk : Nat → Nat) (pv : Nat → Value), k ≤ N.n ∧ i = .int .i64 k ∧ PAt wr C (C + 1) ⟨C, bk, pv⟩ N k ∧ Below C w wr) (fun i _ => N.n - (intOf i).toNat)
  case atStart => exact ⟨0, _, _, Nat.zero_le _, rfl, hp1, hb1⟩
  case round =>
    clear hp1 hb1 hc3
    obtain ⟨k, bk, pv, hk, rfl, hp, hb⟩ := hrel
    by_cases hlt : k < N.n
    · have i2 : (0 : Int) ≤ (k : Int) := by omega
      have i3 : (k : Int) < (N.n : Int) := by omega
      have Hp2 := Lib.hid hp
      have Hb := Lib.hid hb
      have Hl := Lib.hid hp.lt
      have hsrc := Hh.out.below (show Below w.heap.size w wr by rw [HB.out]; exact hb)
      have hpc : wr.cell? ⟨H.g, k, none⟩ = some (.pointer (some ⟨H.bk k, 0, none⟩)) := hsrc.pcell hlt
      have Hsd := Lib.hid (hsrc.dsk k hlt)
      have HC := Lib.hid (fun V (hV : Below wr.heap.size wr V) => (show V.cell? ⟨C + 1, 3, none⟩ = some (.slice (some ⟨C, 0, none⟩) N.n N.n) by rw [cell_of_row _ _ _ _ _ _ (hp.below hV).blk]; rfl))
      clear hp hb hsrc
      go_wp2_with fail
      refine wp_region_noPanic (region_ord 7 [] (fun V => Below wr.heap.size wr V) (by kernel_rfl) (by kernel_rfl) (fun _ _ _ _ _ h => h) fun R => ?_)
      change anyI _ _ _ _ _ _ 9 _ _ wr.drew
      have HS0 := Lib.hid ((Below.refl wr.heap.size wr).drew)
      refine anyI_take R 0 rfl (v := (.pointer (some ⟨C + 1, 0, none⟩))) (by kernel_rfl) (by rfl) (fun V hV => by go_simp) HS0.out ?_
      try simp only [Act.put, List.getElem_toArray, List.getElem_cons_zero, List.setIfInBounds_toArray, List.set_cons_zero, List.set_cons_succ]
      refine anyI_take R 1 rfl (v := (.pointer (some ⟨C + 1, 0, none⟩))) (by kernel_rfl) (by rfl) (fun V hV => by go_simp) HS0.out ?_
      try simp only [Act.put, List.getElem_toArray, List.getElem_cons_succ, List.getElem_cons_zero, List.setIfInBounds_toArray, List.set_cons_zero, List.set_cons_succ]
      refine anyI_take R 2 rfl (v := (.pointer (some ⟨C + 1, 3, none⟩))) (by kernel_rfl) (by rfl) (fun V hV => by go_simp) HS0.out ?_
      try simp only [Act.put, List.getElem_toArray, List.getElem_cons_succ, List.getElem_cons_zero, List.setIfInBounds_toArray, List.set_cons_zero, List.set_cons_succ]
      refine anyI_take R 3 rfl (v := (.slice (some ⟨C, 0, none⟩) N.n N.n)) (by kernel_rfl) (by rfl) (fun V hV => by have hc := HC.out V hV; go_simp) HS0.out ?_
      try simp only [Act.put, List.getElem_toArray, List.getElem_cons_succ, List.getElem_cons_zero, List.setIfInBounds_toArray, List.set_cons_zero, List.set_cons_succ]
      refine anyI_take R 4 rfl (v := (.int .i64 (k : Int))) (by kernel_rfl) (by rfl) (fun V hV => by go_simp) HS0.out ?_
      try simp only [Act.put, List.getElem_toArray, List.getElem_cons_succ, List.getElem_cons_zero, List.setIfInBounds_toArray, List.set_cons_zero, List.set_cons_succ]
      refine anyI_take R 5 rfl (v := (.pointer (some ⟨H.bk k, 0, none⟩))) (by kernel_rfl) (by rfl) (fun V hV => by go_simp) HS0.out ?_
      try simp only [Act.put, List.getElem_toArray, List.getElem_cons_succ, List.getElem_cons_zero, List.setIfInBounds_toArray, List.set_cons_zero, List.set_cons_succ]
      refine anyI_one 6 (by kernel_rfl) rfl ?_
      try simp only [List.getElem_toArray, List.getElem_cons_succ, List.getElem_cons_zero]
      refine opE_step ?_
      rw [if_pos (by rfl)]
      go_simp
      go_at_call 39
      refine (dsk_clone_any _ _ _ _ wr.drew (Hsd.out.drewN 1) (Hp.out k hlt)).mono ?_
      rintro e w6 ⟨b6, pv6, rfl, hd6, hb6⟩
      dsimp only
      have hb6' : Below wr.heap.size wr w6 := HS0.out.trans hb6
      refine ⟨hb6', ?_⟩
      try simp only [Act.put, List.getElem_toArray, List.getElem_cons_succ, List.getElem_cons_zero, List.setIfInBounds_toArray, List.set_cons_zero, List.set_cons_succ]
      refine anyI_tail (by kernel_rfl) ?_
      simp only [List.drop_succ_cons, List.drop_zero]
      clear R
      have Hrow := Lib.hid ((Hp2.out.below hb6').row)
      have Hd := Lib.hid hd6
      have Hb6 := Lib.hid hb6'
      clear hd6 hb6 hb6' HS0 HC hpc
      go_wp2_with (refine wpList_store_blk rfl 74 _ _ (by rfl) C k (.pointer (some ⟨b6, 0, none⟩)) (by rfl) (by rfl) (rowk N.n k bk) 74 Hrow.out [.pointer (some ⟨b6, 0, none⟩)] (by rfl) 1 rfl size_pdisk (by rw [rowk_len]; omega) (by intro u hu; simp at hu; subst hu; rfl) _ rfl ?_; intro w7 h7 hg7)
      refine NoPanic.normal ?_
      have hc7 := (chg_grown hg7).mono (G := fun j => j = C) fun i _ e => by injection e with e; exact e.symm
      have Hn := Lib.hid (Hp2.out.next hlt (by have := Hl.out; omega) Hb6.out Hd.out h7 hc7)
      have Hbb := Lib.hid (show Below C w w7 from (Hb.out.trans (Hb6.out.mono (by have := Hl.out; omega))).trans (hc7.below (fun j e => by omega) (by have := Hl.out; have := Hb6.out.size; omega)))
      clear h7 hg7 hc7 Hrow Hd Hb6
      go_wp2_with fail
      go_roundw
      case rel => exact ⟨k + 1, _, _, by omega, by go_num, Hn.out, Hbb.out⟩
      case measure => simp [intOf]; omega
    · obtain rfl : k = N.n := by omega
      have Ha := Lib.hid (hp.full Hh.out.ok)
      have Hb := Lib.hid hb
      clear hp hb
      go_wp2
      go_ret
      have hs := HB.out
      rw [hs]
      exact ⟨C + 1, _, rfl, Ha.out, Hb.out⟩
end Go.Proofs.Ytadmofpipfdedaa
end
