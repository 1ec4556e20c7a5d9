/- What bench's small calls compute: what is counted, which disk. -/
import Derived.Test.YtpiilfgikgkneaaBch
import Derived.Test.YtpiilfgikgkneaaDskAllD
namespace Go.Proofs.Ytpiilfgikgkneaa
open Go.RowKit

def i64B (x : Int) : Prop := -9223372036854775808 ≤ x ∧ x ≤ 9223372036854775807
section
variable (B b : Nat) (H : BH) (N : Bch) (w : World) (h : BAt w B b H N)
include h
theorem bch_writes_any : Calls Try.prog 15 #[ptr b] w fun e w' => e = .returned (.int .i64 (N.done : Int)) ∧ w' = w := by
  have hc := h.cell 0 _ rfl
  clear h
  unfold ptr
  go_enter Try.func15, Try.ntmps15
  go_wp2
  go_ret
  exact ⟨rfl, rfl⟩
theorem bch_down_any : Calls Try.prog 34 #[ptr b] w fun e w' => e = .returned (.bool N.down) ∧ w' = w := by
  have hc := h.cell 2 _ rfl
  clear h
  unfold ptr
  go_enter Try.func34, Try.ntmps34
  go_wp2
  go_ret
  exact ⟨rfl, rfl⟩
theorem bch_spent_any : Calls Try.prog 38 #[ptr b] w fun e w' => e = .returned (.bool (N.left == 0)) ∧ w' = w := by
  have hc := h.cell 1 _ rfl
  clear h
  unfold ptr
  go_enter Try.func38, Try.ntmps38
  go_wp2
  go_ret
  exact ⟨rfl, rfl⟩
theorem bch_len_any : Calls Try.prog 21 #[ptr b] w fun e w' => e = .returned (.int .i64 (N.n : Int)) ∧ w' = w := by
  have hc := h.cell 3 _ rfl
  clear h
  unfold ptr
  go_enter Try.func21, Try.ntmps21
  go_wp2
  go_ret
  exact ⟨rfl, rfl⟩
theorem bch_restore_any : Calls Try.prog 36 #[ptr b] w fun e w' => e = .returned (.tuple #[]) ∧ BTo w w' B b H N.n N.restore := by
  have Hh := Lib.hid h
  have Hb := Lib.hid h.blk
  clear h
  unfold ptr
  go_enter Try.func36, Try.ntmps36
  go_wp2_with (first
    | (refine wpList_store_blk rfl 3 _ _ (by rfl) b 1 (.int .i64 (-1)) (by rfl) (by rfl) (bcells H.g N.n N.done N.left N.down) 42 Hb.out [.int .i64 (-1)] (by rfl) 1 rfl size_int1 (by show 1 + 1 ≤ 4; omega) (by intro u hu; simp at hu; subst hu; rfl) (bcells H.g N.n N.done (-1) N.down) rfl ?_
       intro w1 hb1 hg1
       have Hb1 := Lib.hid hb1
       have Hg1 := Lib.hid hg1
       clear hb1 hg1)
    | (refine wpList_store_blk rfl 4 _ _ (by rfl) b 2 (.bool false) (by rfl) (by rfl) (bcells H.g N.n N.done (-1) N.down) 42 Hb1.out [.bool false] (by rfl) 1 rfl size_bool1 (by show 2 + 1 ≤ 4; omega) (by intro u hu; simp at hu; subst hu; rfl) (bcells H.g N.n N.done (-1) false) rfl ?_
       intro w2 hb2 hg2))
  go_end0
  exact ⟨rfl, Hh.out.cnt hb2 (((chg_grown Hg1.out).trans (chg_grown hg2) fun _ _ e => e).mono fun i _ e => by injection e with e; exact e.symm) (by omega)⟩
theorem bch_limit_any (v : Int) (hv : i64B v) : Calls Try.prog 27 #[ptr b, .int .i64 v] w fun e w' => e = .returned (.tuple #[]) ∧ BTo w w' B b H N.n (N.limit v) := by
  have Hh := Lib.hid h
  have Hb := Lib.hid h.blk
  have hc := h.cell 2 _ rfl
  obtain ⟨hv1, hv2⟩ := hv
  clear h
  unfold ptr
  cases hd : N.down
  · rw [hd] at hc Hb
    have HL2 := Lib.hid (show N.limit v = { N with left := max v (-1) } by unfold Bch.limit; rw [if_neg (by simp [hd])])
    by_cases hlt : v < -1
    · have HM := Lib.hid (show max v (-1) = -1 by omega)
      rw [HM.out] at HL2
      go_enter Try.func27, Try.ntmps27
      go_wp2_with (refine wpList_store_blk rfl 3 _ _ (by rfl) b 1 (.int .i64 (-1)) (by rfl) (by rfl) (bcells H.g N.n N.done N.left false) 42 Hb.out [.int .i64 (-1)] (by rfl) 1 rfl size_int1 (by show 1 + 1 ≤ 4; omega) (by intro u hu; simp at hu; subst hu; rfl) (bcells H.g N.n N.done (-1) false) rfl ?_; intro w1 hb1 hg1)
      go_end0
      rw [HL2.out]
      have := Hh.out.cnt (down := false) hb1 ((chg_grown hg1).mono fun i _ e => by injection e with e; exact e.symm) (by omega)
      refine ⟨rfl, ?_⟩
      rw [← hd] at this
      exact this
    · have HM := Lib.hid (show max v (-1) = v by omega)
      rw [HM.out] at HL2
      go_enter Try.func27, Try.ntmps27
      go_wp2_with (refine wpList_store_blk rfl 3 _ _ (by rfl) b 1 (.int .i64 (v)) (by rfl) (by rfl) (bcells H.g N.n N.done N.left false) 42 Hb.out [.int .i64 (v)] (by rfl) 1 rfl size_int1 (by show 1 + 1 ≤ 4; omega) (by intro u hu; simp at hu; subst hu; rfl) (bcells H.g N.n N.done (v) false) rfl ?_; intro w1 hb1 hg1)
      go_end0
      rw [HL2.out]
      have := Hh.out.cnt (down := false) hb1 ((chg_grown hg1).mono fun i _ e => by injection e with e; exact e.symm) (by omega)
      refine ⟨rfl, ?_⟩
      rw [← hd] at this
      exact this
  · rw [hd] at hc
    have HL2 := Lib.hid (show N.limit v = N by unfold Bch.limit; rw [if_pos hd])
    go_enter Try.func27, Try.ntmps27
    go_wp2
    go_end0
    exact ⟨rfl, by rw [HL2.out]; exact Hh.out.self⟩
theorem bch_count_any (hdn : N.done ≤ 2000000) : Calls Try.prog 41 #[ptr b] w fun e w' => e = .returned (.int .i64 N.countE) ∧ BTo w w' B b H N.n N.count := by
  have Hh := Lib.hid h
  have Hb := Lib.hid h.blk
  have CS := Lib.hid (bch_spent_any B b H N w h)
  have hc := h.cell 1 _ rfl
  have hc0 := h.cell 0 _ rfl
  obtain ⟨hl1, hl2⟩ := h.ok.left
  clear h
  by_cases h0 : N.left = 0
  · have HE := Lib.hid (show N.countE = 6 by unfold Bch.countE; rw [if_pos h0])
    have HC := Lib.hid (show N.count = { N with down := true } by unfold Bch.count; rw [if_pos h0])
    rw [h0] at CS
    unfold ptr at CS ⊢
    go_enter Try.func41, Try.ntmps41
    go_wp2_with fail
    refine CS.out.mono ?_
    rintro e w' ⟨rfl, rfl⟩
    go_wp2_with (refine wpList_store_blk rfl 4 _ _ (by rfl) b 2 (.bool true) (by rfl) (by rfl) (bcells H.g N.n N.done N.left N.down) 42 Hb.out [.bool true] (by rfl) 1 rfl size_bool1 (by show 2 + 1 ≤ 4; omega) (by intro u hu; simp at hu; subst hu; rfl) (bcells H.g N.n N.done N.left true) rfl ?_; intro w1 hb1 hg1)
    go_ret
    exact ⟨by rw [HE.out]; rfl, by rw [HC.out]; exact Hh.out.cnt hb1 ((chg_grown hg1).mono fun i _ e => by injection e with e; exact e.symm) (by omega)⟩
  · have HE := Lib.hid (show N.countE = 0 by unfold Bch.countE; rw [if_neg h0])
    have hs : (N.left == 0) = false := by rw [beq_eq_false_iff_ne]; exact h0
    rw [hs] at CS
    by_cases h1 : N.left = -1
    · have HC := Lib.hid (show N.count = { N with done := N.done + 1, left := -1 } by unfold Bch.count; rw [if_neg h0, if_pos h1])
      rw [h1] at hc Hb
      have n1 : IntKind.i64.wrap ((N.done : Int) + 1) = (N.done : Int) + 1 := by rw [IntKind.wrap_i64]; omega
      have N2 := Lib.hid (show (N.done : Int) + 1 = ((N.done + 1 : Nat) : Int) by omega)
      clear hs h0 h1
      unfold ptr at CS ⊢
      go_enter Try.func41, Try.ntmps41
      go_wp2_with fail
      refine CS.out.mono ?_
      rintro e w' ⟨rfl, rfl⟩
      go_wp2_with (refine wpList_store_blk rfl 3 _ _ (by rfl) b 0 (.int .i64 ((N.done : Int) + 1)) (by rfl) (by rfl) (bcells H.g N.n N.done (-1) N.down) 42 Hb.out [.int .i64 ((N.done : Int) + 1)] (by rfl) 1 rfl size_int1 (by show 0 + 1 ≤ 4; omega) (by intro u hu; simp at hu; subst hu; rfl) (bcells H.g N.n (N.done + 1) (-1) N.down) (by rw [N2.out]; rfl) ?_; intro w1 hb1 hg1)
      go_ret
      exact ⟨by rw [HE.out]; rfl, by rw [HC.out]; exact Hh.out.cnt hb1 ((chg_grown hg1).mono fun i _ e => by injection e with e; exact e.symm) (by omega)⟩
    · have HC := Lib.hid (show N.count = { N with done := N.done + 1, left := N.left - 1 } by unfold Bch.count; rw [if_neg h0, if_neg h1])
      have n1 : IntKind.i64.wrap ((N.done : Int) + 1) = (N.done : Int) + 1 := by rw [IntKind.wrap_i64]; omega
      have n3 : IntKind.i64.wrap (N.left - 1) = N.left - 1 := by rw [IntKind.wrap_i64]; omega
      have N2 := Lib.hid (show (N.done : Int) + 1 = ((N.done + 1 : Nat) : Int) by omega)
      have hne : (N.left != -1) = true := by rw [bne_iff_ne]; exact h1
      have hlp : 1 ≤ N.left := by omega
      clear hs h0 h1
      unfold ptr at CS ⊢
      go_enter Try.func41, Try.ntmps41
      go_wp2_with fail
      refine CS.out.mono ?_
      rintro e w' ⟨rfl, rfl⟩
      go_wp2_with (first
      | (refine wpList_store_blk rfl 3 _ _ (by rfl) b 1 (.int .i64 (N.left - 1)) (by rfl) (by rfl) (bcells H.g N.n N.done N.left N.down) 42 Hb.out [.int .i64 (N.left - 1)] (by rfl) 1 rfl size_int1 (by show 1 + 1 ≤ 4; omega) (by intro u hu; simp at hu; subst hu; rfl) (bcells H.g N.n N.done (N.left - 1) N.down) rfl ?_
         intro w1 hb1 hg1
         have Hb1 := Lib.hid hb1
         have Hg1 := Lib.hid hg1
         have hc1 : w1.cell? ⟨b, 0, none⟩ = some (.int .i64 (N.done : Int)) := by rw [cell_of_row w1 b 0 _ _ _ hb1]; rfl
         clear hb1 hg1 hc hc0)
      | (refine wpList_store_blk rfl 3 _ _ (by rfl) b 0 (.int .i64 ((N.done : Int) + 1)) (by rfl) (by rfl) (bcells H.g N.n N.done (N.left - 1) N.down) 42 Hb1.out [.int .i64 ((N.done : Int) + 1)] (by rfl) 1 rfl size_int1 (by show 0 + 1 ≤ 4; omega) (by intro u hu; simp at hu; subst hu; rfl) (bcells H.g N.n (N.done + 1) (N.left - 1) N.down) (by rw [N2.out]; rfl) ?_
         intro w2 hb2 hg2))
      go_ret
      exact ⟨by rw [HE.out]; rfl, by rw [HC.out]; exact Hh.out.cnt hb2 (((chg_grown Hg1.out).trans (chg_grown hg2) fun _ _ e => e).mono fun i _ e => by injection e with e; exact e.symm) (by omega)⟩
/-- The disk that a call is on. -/
def dptr (H : BH) (e : Int) (d : Int) : Value := if e ≠ 0 then .pointer none else ptr (H.bk d.toNat)
theorem bch_pick_any (d : Int) (hd : i64B d) : Calls Try.prog 45 #[ptr b, .int .i64 d] w fun e w' => e = .returned (.tuple #[dptr H (N.pickE d) d, .int .i64 (N.pickE d)]) ∧ w' = w := by
  have hc := h.cell 3 _ rfl
  have hn := h.ok.n
  obtain ⟨hd1, hd2⟩ := hd
  by_cases h0 : d < 0
  · have HE := Lib.hid (show N.pickE d = 1 by unfold Bch.pickE; rw [if_pos (.inl h0)])
    have HP := Lib.hid (show dptr H 1 d = .pointer none by unfold dptr; rfl)
    clear h
    unfold ptr
    go_enter Try.func45, Try.ntmps45
    go_wp2
    go_ret2
    exact ⟨by rw [HE.out, HP.out]; rfl, rfl⟩
  · by_cases h1 : (N.n : Int) ≤ d
    · have HE := Lib.hid (show N.pickE d = 1 by unfold Bch.pickE; rw [if_pos (.inr h1)])
      have HP := Lib.hid (show dptr H 1 d = .pointer none by unfold dptr; rfl)
      clear h
      unfold ptr
      go_enter Try.func45, Try.ntmps45
      go_wp2
      go_ret2
      exact ⟨by rw [HE.out, HP.out]; rfl, rfl⟩
    · have HE := Lib.hid (show N.pickE d = 0 by unfold Bch.pickE; rw [if_neg (by omega)])
      obtain ⟨j, rfl⟩ : ∃ j : Nat, d = (j : Int) := ⟨d.toNat, by omega⟩
      have HP := Lib.hid (show dptr H 0 (j : Int) = ptr (H.bk j) by unfold dptr; rfl)
      have hp := h.pcell (i := j) (by omega)
      have j0 : (0 : Int) ≤ (j : Int) := by omega
      have j1 : (j : Int) < (N.n : Int) := by omega
      clear h h0 h1
      unfold ptr at HP hp ⊢
      go_enter Try.func45, Try.ntmps45
      go_wp2
      go_ret2
      exact ⟨by rw [HE.out, HP.out]; rfl, rfl⟩
theorem bch_powered_any (d : Int) (hd : i64B d) : Calls Try.prog 37 #[ptr b, .int .i64 d] w fun e w' => e = .returned (.tuple #[dptr H (N.powE d) d, .int .i64 (N.powE d)]) ∧ w' = w := by
  have hc := h.cell 2 _ rfl
  have CP := Lib.hid (bch_pick_any B b H N w h d hd)
  by_cases h0 : N.pickE d = 0
  · rw [h0] at CP
    cases hdn : N.down
    · have HE := Lib.hid (show N.powE d = 0 from Bch.powE_ok h0 hdn)
      rw [hdn] at hc
      generalize hdp : dptr H 0 d = P at CP
      have HD := Lib.hid hdp
      clear h hdp
      unfold ptr at CP ⊢
      go_enter Try.func37, Try.ntmps37
      go_wp2_with fail
      refine CP.out.mono ?_
      rintro e w' ⟨rfl, rfl⟩
      go_wp2
      go_ret2
      exact ⟨by rw [HE.out, HD.out]; rfl, rfl⟩
    · have HE := Lib.hid (show N.powE d = 6 from Bch.powE_down h0 hdn)
      have HP := Lib.hid (show dptr H 6 d = .pointer none by unfold dptr; rfl)
      rw [hdn] at hc
      generalize dptr H 0 d = P at CP
      clear h
      unfold ptr at CP ⊢
      go_enter Try.func37, Try.ntmps37
      go_wp2_with fail
      refine CP.out.mono ?_
      rintro e w' ⟨rfl, rfl⟩
      go_wp2
      go_ret2
      exact ⟨by rw [HE.out, HP.out]; rfl, rfl⟩
  · have HE := Lib.hid (show N.powE d = N.pickE d from Bch.powE_no h0)
    have HP := Lib.hid (show dptr H (N.pickE d) d = .pointer none by unfold dptr; rw [if_pos h0])
    have hne : (N.pickE d != 0) = true := by rw [bne_iff_ne]; exact h0
    rw [HP.out] at CP
    generalize N.pickE d = E at CP HE HP hne
    clear h h0
    unfold ptr at CP ⊢
    go_enter Try.func37, Try.ntmps37
    go_wp2_with fail
    refine CP.out.mono ?_
    rintro e w' ⟨rfl, rfl⟩
    go_wp2
    go_ret2
    exact ⟨by rw [HE.out, HP.out]; rfl, rfl⟩
end
end Go.Proofs.Ytpiilfgikgkneaa
