/- Texts put together: BchOps, OnTo. -/
import Derived.Test.YtjnemopocmhfkaaDoorBlar
import Derived.Test.YtjnemopocmhfkaaDoorBlaq
section
namespace Go.Proofs.YtjnemopocmhfkaaDoor
open Go.RowKit

def i64B (x : Int) : Prop := -9223372036854775808 ≤ x ∧ x ≤ 9223372036854775807
section
variable (B b : Nat) (H : BH) (N : Bch) (w : World) (h : BAt w B b H N)
include h
theorem bch_writes_any : Calls Tryd.prog 15 #[ptr b] w fun e w' => e = .returned (.int .i64 (N.done : Int)) ∧ w' = w := by
  have hc := h.cell 0 _ rfl
  clear h
  unfold ptr
  go_enter Tryd.func15, Tryd.ntmps15
  go_wp2
  go_ret
  exact ⟨rfl, rfl⟩
theorem bch_spent_any : Calls Tryd.prog 52 #[ptr b] w fun e w' => e = .returned (.bool (N.left == 0)) ∧ w' = w := by
  have hc := h.cell 1 _ rfl
  clear h
  unfold ptr
  go_enter Tryd.func52, Tryd.ntmps52
  go_wp2
  go_ret
  exact ⟨rfl, rfl⟩
theorem bch_len_any : Calls Tryd.prog 33 #[ptr b] w fun e w' => e = .returned (.int .i64 (N.n : Int)) ∧ w' = w := by
  have hc := h.cell 3 _ rfl
  clear h
  unfold ptr
  go_enter Tryd.func33, Tryd.ntmps33
  go_wp2
  go_ret
  exact ⟨rfl, rfl⟩
theorem bch_restore_any : Calls Tryd.prog 22 #[ptr b] w fun e w' => e = .returned (.tuple #[]) ∧ BTo w w' B b H N.n N.restore := by
  have Hh := Lib.hid h
  have Hb := Lib.hid h.blk
  clear h
  unfold ptr
  go_enter Tryd.func22, Tryd.ntmps22
  go_wp2_with (first
    | (refine wpList_store_blk rfl 3 _ _ (by rfl) b 1 (.int .i64 (-1)) (by rfl) (by rfl) (bcells H.g N.n N.done N.left N.down) 44 Hb.out [.int .i64 (-1)] (by rfl) 1 rfl size_int1 (by show 1 + 1 ≤ 4; omega) (by intro u hu; simp at hu; subst hu; rfl) (bcells H.g N.n N.done (-1) N.down) rfl ?_
       intro w1 hb1 hg1
       have Hb1 := Lib.hid hb1
       have Hg1 := Lib.hid hg1
       clear hb1 hg1)
    | (refine wpList_store_blk rfl 4 _ _ (by rfl) b 2 (.bool false) (by rfl) (by rfl) (bcells H.g N.n N.done (-1) N.down) 44 Hb1.out [.bool false] (by rfl) 1 rfl size_bool1 (by show 2 + 1 ≤ 4; omega) (by intro u hu; simp at hu; subst hu; rfl) (bcells H.g N.n N.done (-1) false) rfl ?_
       intro w2 hb2 hg2))
  go_end0
  exact ⟨rfl, Hh.out.cnt hb2 (((chg_grown Hg1.out).trans (chg_grown hg2) fun _ _ e => e).mono fun i _ e => by injection e with e; exact e.symm) (by omega)⟩
theorem bch_count_any (hdn : N.done ≤ 2000000) : Calls Tryd.prog 55 #[ptr b] w fun e w' => e = .returned (.int .i64 N.countE) ∧ BTo w w' B b H N.n N.count := by
  have Hh := Lib.hid h
  have Hb := Lib.hid h.blk
  have CS := Lib.hid (bch_spent_any B b H N w h)
  have hc := h.cell 1 _ rfl
  have hc0 := h.cell 0 _ rfl
  obtain ⟨hl1, hl2⟩ := h.ok.left
  clear h
  by_cases h0 : N.left = 0
  · have HE := Lib.hid (show N.countE = 6 by unfold Bch.countE; rw [if_pos h0])
    have HC := Lib.hid (show N.count = { N with down := true } by unfold Bch.count; rw [if_pos h0])
    rw [h0] at CS
    unfold ptr at CS ⊢
    go_enter Tryd.func55, Tryd.ntmps55
    go_wp2_with fail
    refine CS.out.mono ?_
    rintro e w' ⟨rfl, rfl⟩
    go_wp2_with (refine wpList_store_blk rfl 4 _ _ (by rfl) b 2 (.bool true) (by rfl) (by rfl) (bcells H.g N.n N.done N.left N.down) 44 Hb.out [.bool true] (by rfl) 1 rfl size_bool1 (by show 2 + 1 ≤ 4; omega) (by intro u hu; simp at hu; subst hu; rfl) (bcells H.g N.n N.done N.left true) rfl ?_; intro w1 hb1 hg1)
    go_ret
    exact ⟨by rw [HE.out]; rfl, by rw [HC.out]; exact Hh.out.cnt hb1 ((chg_grown hg1).mono fun i _ e => by injection e with e; exact e.symm) (by omega)⟩
  · have HE := Lib.hid (show N.countE = 0 by unfold Bch.countE; rw [if_neg h0])
    have hs : (N.left == 0) = false := by rw [beq_eq_false_iff_ne]; exact h0
    rw [hs] at CS
    by_cases h1 : N.left = -1
    · have HC := Lib.hid (show N.count = { N with done := N.done + 1, left := -1 } by unfold Bch.count; rw [if_neg h0, if_pos h1])
      rw [h1] at hc Hb
      have n1 : IntKind.i64.wrap ((N.done : Int) + 1) = (N.done : Int) + 1 := by rw [IntKind.wrap_i64]; omega
      have N2 := Lib.hid (show (N.done : Int) + 1 = ((N.done + 1 : Nat) : Int) by omega)
      clear hs h0 h1
      unfold ptr at CS ⊢
      go_enter Tryd.func55, Tryd.ntmps55
      go_wp2_with fail
      refine CS.out.mono ?_
      rintro e w' ⟨rfl, rfl⟩
      go_wp2_with (refine wpList_store_blk rfl 3 _ _ (by rfl) b 0 (.int .i64 ((N.done : Int) + 1)) (by rfl) (by rfl) (bcells H.g N.n N.done (-1) N.down) 44 Hb.out [.int .i64 ((N.done : Int) + 1)] (by rfl) 1 rfl size_int1 (by show 0 + 1 ≤ 4; omega) (by intro u hu; simp at hu; subst hu; rfl) (bcells H.g N.n (N.done + 1) (-1) N.down) (by rw [N2.out]; rfl) ?_; intro w1 hb1 hg1)
      go_ret
      exact ⟨by rw [HE.out]; rfl, by rw [HC.out]; exact Hh.out.cnt hb1 ((chg_grown hg1).mono fun i _ e => by injection e with e; exact e.symm) (by omega)⟩
    · have HC := Lib.hid (show N.count = { N with done := N.done + 1, left := N.left - 1 } by unfold Bch.count; rw [if_neg h0, if_neg h1])
      have n1 : IntKind.i64.wrap ((N.done : Int) + 1) = (N.done : Int) + 1 := by rw [IntKind.wrap_i64]; omega
      have n3 : IntKind.i64.wrap (N.left - 1) = N.left - 1 := by rw [IntKind.wrap_i64]; omega
      have N2 := Lib.hid (show (N.done : Int) + 1 = ((N.done + 1 : Nat) : Int) by omega)
      have hne : (N.left != -1) = true := by rw [bne_iff_ne]; exact h1
      have hlp : 1 ≤ N.left := by omega
      clear hs h0 h1
      unfold ptr at CS ⊢
      go_enter Tryd.func55, Tryd.ntmps55
      go_wp2_with fail
      refine CS.out.mono ?_
      rintro e w' ⟨rfl, rfl⟩
      go_wp2_with (first
      | (refine wpList_store_blk rfl 3 _ _ (by rfl) b 1 (.int .i64 (N.left - 1)) (by rfl) (by rfl) (bcells H.g N.n N.done N.left N.down) 44 Hb.out [.int .i64 (N.left - 1)] (by rfl) 1 rfl size_int1 (by show 1 + 1 ≤ 4; omega) (by intro u hu; simp at hu; subst hu; rfl) (bcells H.g N.n N.done (N.left - 1) N.down) rfl ?_
         intro w1 hb1 hg1
         have Hb1 := Lib.hid hb1
         have Hg1 := Lib.hid hg1
         have hc1 : w1.cell? ⟨b, 0, none⟩ = some (.int .i64 (N.done : Int)) := by rw [cell_of_row w1 b 0 _ _ _ hb1]; rfl
         clear hb1 hg1 hc hc0)
      | (refine wpList_store_blk rfl 3 _ _ (by rfl) b 0 (.int .i64 ((N.done : Int) + 1)) (by rfl) (by rfl) (bcells H.g N.n N.done (N.left - 1) N.down) 44 Hb1.out [.int .i64 ((N.done : Int) + 1)] (by rfl) 1 rfl size_int1 (by show 0 + 1 ≤ 4; omega) (by intro u hu; simp at hu; subst hu; rfl) (bcells H.g N.n (N.done + 1) (N.left - 1) N.down) (by rw [N2.out]; rfl) ?_
         intro w2 hb2 hg2))
      go_ret
      exact ⟨by rw [HE.out]; rfl, by rw [HC.out]; exact Hh.out.cnt hb2 (((chg_grown Hg1.out).trans (chg_grown hg2) fun _ _ e => e).mono fun i _ e => by injection e with e; exact e.symm) (by omega)⟩
/-- The disk that a call is on. -/
def dptr (H : BH) (e : Int) (d : Int) : Value := if e ≠ 0 then .pointer none else ptr (H.bk d.toNat)
theorem bch_pick_any (d : Int) (hd : i64B d) : Calls Tryd.prog 36 #[ptr b, .int .i64 d] w fun e w' => e = .returned (.tuple #[dptr H (N.pickE d) d, .int .i64 (N.pickE d)]) ∧ w' = w := by
  have hc := h.cell 3 _ rfl
  have hn := h.ok.n
  obtain ⟨hd1, hd2⟩ := hd
  by_cases h0 : d < 0
  · have HE := Lib.hid (show N.pickE d = 1 by unfold Bch.pickE; rw [if_pos (.inl h0)])
    have HP := Lib.hid (show dptr H 1 d = .pointer none by unfold dptr; rfl)
    clear h
    unfold ptr
    go_enter Tryd.func36, Tryd.ntmps36
    go_wp2
    go_ret2
    exact ⟨by rw [HE.out, HP.out]; rfl, rfl⟩
  · by_cases h1 : (N.n : Int) ≤ d
    · have HE := Lib.hid (show N.pickE d = 1 by unfold Bch.pickE; rw [if_pos (.inr h1)])
      have HP := Lib.hid (show dptr H 1 d = .pointer none by unfold dptr; rfl)
      clear h
      unfold ptr
      go_enter Tryd.func36, Tryd.ntmps36
      go_wp2
      go_ret2
      exact ⟨by rw [HE.out, HP.out]; rfl, rfl⟩
    · have HE := Lib.hid (show N.pickE d = 0 by unfold Bch.pickE; rw [if_neg (by omega)])
      obtain ⟨j, rfl⟩ : ∃ j : Nat, d = (j : Int) := ⟨d.toNat, by omega⟩
      have HP := Lib.hid (show dptr H 0 (j : Int) = ptr (H.bk j) by unfold dptr; rfl)
      have hp := h.pcell (i := j) (by omega)
      have j0 : (0 : Int) ≤ (j : Int) := by omega
      have j1 : (j : Int) < (N.n : Int) := by omega
      clear h h0 h1
      unfold ptr at HP hp ⊢
      go_enter Tryd.func36, Tryd.ntmps36
      go_wp2
      go_ret2
      exact ⟨by rw [HE.out, HP.out]; rfl, rfl⟩
theorem bch_powered_any (d : Int) (hd : i64B d) : Calls Tryd.prog 40 #[ptr b, .int .i64 d] w fun e w' => e = .returned (.tuple #[dptr H (N.powE d) d, .int .i64 (N.powE d)]) ∧ w' = w := by
  have hc := h.cell 2 _ rfl
  have CP := Lib.hid (bch_pick_any B b H N w h d hd)
  by_cases h0 : N.pickE d = 0
  · rw [h0] at CP
    cases hdn : N.down
    · have HE := Lib.hid (show N.powE d = 0 from Bch.powE_ok h0 hdn)
      rw [hdn] at hc
      generalize hdp : dptr H 0 d = P at CP
      have HD := Lib.hid hdp
      clear h hdp
      unfold ptr at CP ⊢
      go_enter Tryd.func40, Tryd.ntmps40
      go_wp2_with fail
      refine CP.out.mono ?_
      rintro e w' ⟨rfl, rfl⟩
      go_wp2
      go_ret2
      exact ⟨by rw [HE.out, HD.out]; rfl, rfl⟩
    · have HE := Lib.hid (show N.powE d = 6 from Bch.powE_down h0 hdn)
      have HP := Lib.hid (show dptr H 6 d = .pointer none by unfold dptr; rfl)
      rw [hdn] at hc
      generalize dptr H 0 d = P at CP
      clear h
      unfold ptr at CP ⊢
      go_enter Tryd.func40, Tryd.ntmps40
      go_wp2_with fail
      refine CP.out.mono ?_
      rintro e w' ⟨rfl, rfl⟩
      go_wp2
      go_ret2
      exact ⟨by rw [HE.out, HP.out]; rfl, rfl⟩
  · have HE := Lib.hid (show N.powE d = N.pickE d from Bch.powE_no h0)
    have HP := Lib.hid (show dptr H (N.pickE d) d = .pointer none by unfold dptr; rw [if_pos h0])
    have hne : (N.pickE d != 0) = true := by rw [bne_iff_ne]; exact h0
    rw [HP.out] at CP
    generalize N.pickE d = E at CP HE HP hne
    clear h h0
    unfold ptr at CP ⊢
    go_enter Tryd.func40, Tryd.ntmps40
    go_wp2_with fail
    refine CP.out.mono ?_
    rintro e w' ⟨rfl, rfl⟩
    go_wp2
    go_ret2
    exact ⟨by rw [HE.out, HP.out]; rfl, rfl⟩
end
end Go.Proofs.YtjnemopocmhfkaaDoor
end
section
set_option linter.unusedVariables false
set_option linter.unusedSimpArgs false
namespace Go.Proofs.YtjnemopocmhfkaaDoor

/-- What is done on each live disk, up to the first error. -/
def onTo (f : Bch → Nat → Int × Bch) (lv : List Bool) (N : Bch) : Nat → Int × Bch
  | 0 => (0, N)
  | i + 1 => if (onTo f lv N i).1 ≠ 0 then onTo f lv N i else if lv.getD i false = false then onTo f lv N i else
      if (f (onTo f lv N i).2 i).1 = 5 then (0, (f (onTo f lv N i).2 i).2) else f (onTo f lv N i).2 i
def wrF (at' : Nat) (x : List UInt8) (N : Bch) (i : Nat) : Int × Bch := (N.writeE (i : Int) (at' : Int) x.length, N.write (i : Int) (at' : Int) x)
def flF (N : Bch) (i : Nat) : Int × Bch := (N.flushE (i : Int), N.flush (i : Int))
section
variable {f : Bch → Nat → Int × Bch} {lv : List Bool} {N : Bch}
theorem onTo_skip {i : Nat} (h : (onTo f lv N i).1 = 0) (hl : lv.getD i false = false) : onTo f lv N (i + 1) = onTo f lv N i := by
  rw [onTo, if_neg (by simp [h]), if_pos hl]
theorem onTo_pass {i : Nat} (h : (onTo f lv N i).1 = 0) (hl : lv.getD i false = true) (hq : (f (onTo f lv N i).2 i).1 = 5) : onTo f lv N (i + 1) = (0, (f (onTo f lv N i).2 i).2) := by
  rw [onTo, if_neg (by simp [h]), if_neg (by simp only [hl]; decide), if_pos hq]
theorem onTo_goes {i : Nat} (h : (onTo f lv N i).1 = 0) (hl : lv.getD i false = true) (hq : (f (onTo f lv N i).2 i).1 ≠ 5) : onTo f lv N (i + 1) = f (onTo f lv N i).2 i := by
  rw [onTo, if_neg (by simp [h]), if_neg (by simp only [hl]; decide), if_neg hq]
theorem onTo_stop {i : Nat} (h : (onTo f lv N i).1 ≠ 0) : ∀ m, i ≤ m → onTo f lv N m = onTo f lv N i
  | 0, hm => by obtain rfl : i = 0 := by omega
                rfl
  | m + 1, hm => by
    by_cases e : i = m + 1
    · rw [e]
    · have ih := onTo_stop h m (by omega)
      rw [onTo, if_pos (by rw [ih]; exact h), ih]
theorem onTo_any (P : Bch → Prop) (h0 : P N) (hs : ∀ M i, P M → P (f M i).2) : ∀ i, P (onTo f lv N i).2
  | 0 => h0
  | i + 1 => by
    have ih := onTo_any P h0 hs i
    rw [onTo]
    repeat' split
    · exact ih
    · exact ih
    · exact hs _ _ ih
    · exact hs _ _ ih
end
theorem flush_n (N : Bch) (d : Int) : (N.flush d).n = N.n := by unfold Bch.flush; split <;> rfl
theorem flushed_n {lv : List Bool} {N : Bch} (i : Nat) : (onTo flF lv N i).2.n = N.n :=
  onTo_any (fun M => M.n = N.n) rfl (fun M i h => (flush_n M _).trans h) i
theorem count_done (N : Bch) : N.count.done ≤ N.done + 1 := by unfold Bch.count; split <;> simp
theorem write_done (N : Bch) (d k : Int) (x : List UInt8) : (N.write d k x).done ≤ N.done + 1 := by
  unfold Bch.write
  repeat' split
  · omega
  · omega
  · exact count_done N
  · exact count_done (N.set d.toNat ((N.at_ d).write k.toNat x))
theorem write_len (N : Bch) (d k : Int) (x : List UInt8) (j : Nat) : ((N.write d k x).D j).ps.length ≤ (N.D j).ps.length + 1 := by
  unfold Bch.write
  repeat' split
  · omega
  · omega
  · rw [Bch.count_D]; omega
  · rw [Bch.count_D]
    show ((upd N.D d.toNat _) j).ps.length ≤ _
    by_cases e : j = d.toNat
    · subst e; rw [upd_same]; simp [Bch.at_, Dsk.write]
    · rw [upd_other _ _ e]; omega
end Go.Proofs.YtjnemopocmhfkaaDoor
end
