/- Texts put together: BchOps, BchCalls, BchWrite, BchPend, BchPart, BchNew, BchClone. -/
import Derived.Test.YtadfimimkkimmaaSaaak
import Derived.Test.YtadfimimkkimmaaSaaag
import Derived.Test.YtadfimimkkimmaaSaaah
section
namespace Go.Proofs.Ytadfimimkkimmaa
open Go.RowKit

def i64B (x : Int) : Prop := -9223372036854775808 ≤ x ∧ x ≤ 9223372036854775807
section
variable (B b : Nat) (H : BH) (N : Bch) (w : World) (h : BAt w B b H N)
include h
theorem bch_writes_any : Calls Try.prog 24 #[ptr b] w fun e w' => e = .returned (.int .i64 (N.done : Int)) ∧ w' = w := by
  have hc := h.cell 0 _ rfl
  clear h
  unfold ptr
  go_enter Try.func24, Try.ntmps24
  go_wp2
  go_ret
  exact ⟨rfl, rfl⟩
theorem bch_spent_any : Calls Try.prog 72 #[ptr b] w fun e w' => e = .returned (.bool (N.left == 0)) ∧ w' = w := by
  have hc := h.cell 1 _ rfl
  clear h
  unfold ptr
  go_enter Try.func72, Try.ntmps72
  go_wp2
  go_ret
  exact ⟨rfl, rfl⟩
theorem bch_len_any : Calls Try.prog 44 #[ptr b] w fun e w' => e = .returned (.int .i64 (N.n : Int)) ∧ w' = w := by
  have hc := h.cell 3 _ rfl
  clear h
  unfold ptr
  go_enter Try.func44, Try.ntmps44
  go_wp2
  go_ret
  exact ⟨rfl, rfl⟩
theorem bch_restore_any : Calls Try.prog 52 #[ptr b] w fun e w' => e = .returned (.tuple #[]) ∧ BTo w w' B b H N.n N.restore := by
  have Hh := Lib.hid h
  have Hb := Lib.hid h.blk
  clear h
  unfold ptr
  go_enter Try.func52, Try.ntmps52
  go_wp2_with (first
    | (refine wpList_store_blk rfl 3 _ _ (by rfl) b 1 (.int .i64 (-1)) (by rfl) (by rfl) (bcells H.g N.n N.done N.left N.down) 55 Hb.out [.int .i64 (-1)] (by rfl) 1 rfl size_int1 (by show 1 + 1 ≤ 4; omega) (by intro u hu; simp at hu; subst hu; rfl) (bcells H.g N.n N.done (-1) N.down) rfl ?_
       intro w1 hb1 hg1
       have Hb1 := Lib.hid hb1
       have Hg1 := Lib.hid hg1
       clear hb1 hg1)
    | (refine wpList_store_blk rfl 4 _ _ (by rfl) b 2 (.bool false) (by rfl) (by rfl) (bcells H.g N.n N.done (-1) N.down) 55 Hb1.out [.bool false] (by rfl) 1 rfl size_bool1 (by show 2 + 1 ≤ 4; omega) (by intro u hu; simp at hu; subst hu; rfl) (bcells H.g N.n N.done (-1) false) rfl ?_
       intro w2 hb2 hg2))
  go_end0
  exact ⟨rfl, Hh.out.cnt hb2 (((chg_grown Hg1.out).trans (chg_grown hg2) fun _ _ e => e).mono fun i _ e => by injection e with e; exact e.symm) (by omega)⟩
theorem bch_limit_any (v : Int) (hv : i64B v) : Calls Try.prog 25 #[ptr b, .int .i64 v] w fun e w' => e = .returned (.tuple #[]) ∧ BTo w w' B b H N.n (N.limit v) := by
  have Hh := Lib.hid h
  have Hb := Lib.hid h.blk
  have hc := h.cell 2 _ rfl
  obtain ⟨hv1, hv2⟩ := hv
  clear h
  unfold ptr
  cases hd : N.down
  · rw [hd] at hc Hb
    have HL2 := Lib.hid (show N.limit v = { N with left := max v (-1) } by unfold Bch.limit; rw [if_neg (by simp [hd])])
    by_cases hlt : v < -1
    · have HM := Lib.hid (show max v (-1) = -1 by omega)
      rw [HM.out] at HL2
      go_enter Try.func25, Try.ntmps25
      go_wp2_with (refine wpList_store_blk rfl 3 _ _ (by rfl) b 1 (.int .i64 (-1)) (by rfl) (by rfl) (bcells H.g N.n N.done N.left false) 55 Hb.out [.int .i64 (-1)] (by rfl) 1 rfl size_int1 (by show 1 + 1 ≤ 4; omega) (by intro u hu; simp at hu; subst hu; rfl) (bcells H.g N.n N.done (-1) false) rfl ?_; intro w1 hb1 hg1)
      go_end0
      rw [HL2.out]
      have := Hh.out.cnt (down := false) hb1 ((chg_grown hg1).mono fun i _ e => by injection e with e; exact e.symm) (by omega)
      refine ⟨rfl, ?_⟩
      rw [← hd] at this
      exact this
    · have HM := Lib.hid (show max v (-1) = v by omega)
      rw [HM.out] at HL2
      go_enter Try.func25, Try.ntmps25
      go_wp2_with (refine wpList_store_blk rfl 3 _ _ (by rfl) b 1 (.int .i64 (v)) (by rfl) (by rfl) (bcells H.g N.n N.done N.left false) 55 Hb.out [.int .i64 (v)] (by rfl) 1 rfl size_int1 (by show 1 + 1 ≤ 4; omega) (by intro u hu; simp at hu; subst hu; rfl) (bcells H.g N.n N.done (v) false) rfl ?_; intro w1 hb1 hg1)
      go_end0
      rw [HL2.out]
      have := Hh.out.cnt (down := false) hb1 ((chg_grown hg1).mono fun i _ e => by injection e with e; exact e.symm) (by omega)
      refine ⟨rfl, ?_⟩
      rw [← hd] at this
      exact this
  · rw [hd] at hc
    have HL2 := Lib.hid (show N.limit v = N by unfold Bch.limit; rw [if_pos hd])
    go_enter Try.func25, Try.ntmps25
    go_wp2
    go_end0
    exact ⟨rfl, by rw [HL2.out]; exact Hh.out.self⟩
theorem bch_count_any (hdn : N.done ≤ 2000000) : Calls Try.prog 75 #[ptr b] w fun e w' => e = .returned (.int .i64 N.countE) ∧ BTo w w' B b H N.n N.count := by
  have Hh := Lib.hid h
  have Hb := Lib.hid h.blk
  have CS := Lib.hid (bch_spent_any B b H N w h)
  have hc := h.cell 1 _ rfl
  have hc0 := h.cell 0 _ rfl
  obtain ⟨hl1, hl2⟩ := h.ok.left
  clear h
  by_cases h0 : N.left = 0
  · have HE := Lib.hid (show N.countE = 6 by unfold Bch.countE; rw [if_pos h0])
    have HC := Lib.hid (show N.count = { N with down := true } by unfold Bch.count; rw [if_pos h0])
    rw [h0] at CS
    unfold ptr at CS ⊢
    go_enter Try.func75, Try.ntmps75
    go_wp2_with fail
    refine CS.out.mono ?_
    rintro e w' ⟨rfl, rfl⟩
    go_wp2_with (refine wpList_store_blk rfl 4 _ _ (by rfl) b 2 (.bool true) (by rfl) (by rfl) (bcells H.g N.n N.done N.left N.down) 55 Hb.out [.bool true] (by rfl) 1 rfl size_bool1 (by show 2 + 1 ≤ 4; omega) (by intro u hu; simp at hu; subst hu; rfl) (bcells H.g N.n N.done N.left true) rfl ?_; intro w1 hb1 hg1)
    go_ret
    exact ⟨by rw [HE.out]; rfl, by rw [HC.out]; exact Hh.out.cnt hb1 ((chg_grown hg1).mono fun i _ e => by injection e with e; exact e.symm) (by omega)⟩
  · have HE := Lib.hid (show N.countE = 0 by unfold Bch.countE; rw [if_neg h0])
    have hs : (N.left == 0) = false := by rw [beq_eq_false_iff_ne]; exact h0
    rw [hs] at CS
    by_cases h1 : N.left = -1
    · have HC := Lib.hid (show N.count = { N with done := N.done + 1, left := -1 } by unfold Bch.count; rw [if_neg h0, if_pos h1])
      rw [h1] at hc Hb
      have n1 : IntKind.i64.wrap ((N.done : Int) + 1) = (N.done : Int) + 1 := by rw [IntKind.wrap_i64]; omega
      have N2 := Lib.hid (show (N.done : Int) + 1 = ((N.done + 1 : Nat) : Int) by omega)
      clear hs h0 h1
      unfold ptr at CS ⊢
      go_enter Try.func75, Try.ntmps75
      go_wp2_with fail
      refine CS.out.mono ?_
      rintro e w' ⟨rfl, rfl⟩
      go_wp2_with (refine wpList_store_blk rfl 3 _ _ (by rfl) b 0 (.int .i64 ((N.done : Int) + 1)) (by rfl) (by rfl) (bcells H.g N.n N.done (-1) N.down) 55 Hb.out [.int .i64 ((N.done : Int) + 1)] (by rfl) 1 rfl size_int1 (by show 0 + 1 ≤ 4; omega) (by intro u hu; simp at hu; subst hu; rfl) (bcells H.g N.n (N.done + 1) (-1) N.down) (by rw [N2.out]; rfl) ?_; intro w1 hb1 hg1)
      go_ret
      exact ⟨by rw [HE.out]; rfl, by rw [HC.out]; exact Hh.out.cnt hb1 ((chg_grown hg1).mono fun i _ e => by injection e with e; exact e.symm) (by omega)⟩
    · have HC := Lib.hid (show N.count = { N with done := N.done + 1, left := N.left - 1 } by unfold Bch.count; rw [if_neg h0, if_neg h1])
      have n1 : IntKind.i64.wrap ((N.done : Int) + 1) = (N.done : Int) + 1 := by rw [IntKind.wrap_i64]; omega
      have n3 : IntKind.i64.wrap (N.left - 1) = N.left - 1 := by rw [IntKind.wrap_i64]; omega
      have N2 := Lib.hid (show (N.done : Int) + 1 = ((N.done + 1 : Nat) : Int) by omega)
      have hne : (N.left != -1) = true := by rw [bne_iff_ne]; exact h1
      have hlp : 1 ≤ N.left := by omega
      clear hs h0 h1
      unfold ptr at CS ⊢
      go_enter Try.func75, Try.ntmps75
      go_wp2_with fail
      refine CS.out.mono ?_
      rintro e w' ⟨rfl, rfl⟩
      go_wp2_with (first
      | (refine wpList_store_blk rfl 3 _ _ (by rfl) b 1 (.int .i64 (N.left - 1)) (by rfl) (by rfl) (bcells H.g N.n N.done N.left N.down) 55 Hb.out [.int .i64 (N.left - 1)] (by rfl) 1 rfl size_int1 (by show 1 + 1 ≤ 4; omega) (by intro u hu; simp at hu; subst hu; rfl) (bcells H.g N.n N.done (N.left - 1) N.down) rfl ?_
         intro w1 hb1 hg1
         have Hb1 := Lib.hid hb1
         have Hg1 := Lib.hid hg1
         have hc1 : w1.cell? ⟨b, 0, none⟩ = some (.int .i64 (N.done : Int)) := by rw [cell_of_row w1 b 0 _ _ _ hb1]; rfl
         clear hb1 hg1 hc hc0)
      | (refine wpList_store_blk rfl 3 _ _ (by rfl) b 0 (.int .i64 ((N.done : Int) + 1)) (by rfl) (by rfl) (bcells H.g N.n N.done (N.left - 1) N.down) 55 Hb1.out [.int .i64 ((N.done : Int) + 1)] (by rfl) 1 rfl size_int1 (by show 0 + 1 ≤ 4; omega) (by intro u hu; simp at hu; subst hu; rfl) (bcells H.g N.n (N.done + 1) (N.left - 1) N.down) (by rw [N2.out]; rfl) ?_
         intro w2 hb2 hg2))
      go_ret
      exact ⟨by rw [HE.out]; rfl, by rw [HC.out]; exact Hh.out.cnt hb2 (((chg_grown Hg1.out).trans (chg_grown hg2) fun _ _ e => e).mono fun i _ e => by injection e with e; exact e.symm) (by omega)⟩
/-- The disk that a call is on. -/
def dptr (H : BH) (e : Int) (d : Int) : Value := if e ≠ 0 then .pointer none else ptr (H.bk d.toNat)
theorem bch_pick_any (d : Int) (hd : i64B d) : Calls Try.prog 47 #[ptr b, .int .i64 d] w fun e w' => e = .returned (.tuple #[dptr H (N.pickE d) d, .int .i64 (N.pickE d)]) ∧ w' = w := by
  have hc := h.cell 3 _ rfl
  have hn := h.ok.n
  obtain ⟨hd1, hd2⟩ := hd
  by_cases h0 : d < 0
  · have HE := Lib.hid (show N.pickE d = 1 by unfold Bch.pickE; rw [if_pos (.inl h0)])
    have HP := Lib.hid (show dptr H 1 d = .pointer none by unfold dptr; rfl)
    clear h
    unfold ptr
    go_enter Try.func47, Try.ntmps47
    go_wp2
    go_ret2
    exact ⟨by rw [HE.out, HP.out]; rfl, rfl⟩
  · by_cases h1 : (N.n : Int) ≤ d
    · have HE := Lib.hid (show N.pickE d = 1 by unfold Bch.pickE; rw [if_pos (.inr h1)])
      have HP := Lib.hid (show dptr H 1 d = .pointer none by unfold dptr; rfl)
      clear h
      unfold ptr
      go_enter Try.func47, Try.ntmps47
      go_wp2
      go_ret2
      exact ⟨by rw [HE.out, HP.out]; rfl, rfl⟩
    · have HE := Lib.hid (show N.pickE d = 0 by unfold Bch.pickE; rw [if_neg (by omega)])
      obtain ⟨j, rfl⟩ : ∃ j : Nat, d = (j : Int) := ⟨d.toNat, by omega⟩
      have HP := Lib.hid (show dptr H 0 (j : Int) = ptr (H.bk j) by unfold dptr; rfl)
      have hp := h.pcell (i := j) (by omega)
      have j0 : (0 : Int) ≤ (j : Int) := by omega
      have j1 : (j : Int) < (N.n : Int) := by omega
      clear h h0 h1
      unfold ptr at HP hp ⊢
      go_enter Try.func47, Try.ntmps47
      go_wp2
      go_ret2
      exact ⟨by rw [HE.out, HP.out]; rfl, rfl⟩
theorem bch_powered_any (d : Int) (hd : i64B d) : Calls Try.prog 62 #[ptr b, .int .i64 d] w fun e w' => e = .returned (.tuple #[dptr H (N.powE d) d, .int .i64 (N.powE d)]) ∧ w' = w := by
  have hc := h.cell 2 _ rfl
  have CP := Lib.hid (bch_pick_any B b H N w h d hd)
  by_cases h0 : N.pickE d = 0
  · rw [h0] at CP
    cases hdn : N.down
    · have HE := Lib.hid (show N.powE d = 0 from Bch.powE_ok h0 hdn)
      rw [hdn] at hc
      generalize hdp : dptr H 0 d = P at CP
      have HD := Lib.hid hdp
      clear h hdp
      unfold ptr at CP ⊢
      go_enter Try.func62, Try.ntmps62
      go_wp2_with fail
      refine CP.out.mono ?_
      rintro e w' ⟨rfl, rfl⟩
      go_wp2
      go_ret2
      exact ⟨by rw [HE.out, HD.out]; rfl, rfl⟩
    · have HE := Lib.hid (show N.powE d = 6 from Bch.powE_down h0 hdn)
      have HP := Lib.hid (show dptr H 6 d = .pointer none by unfold dptr; rfl)
      rw [hdn] at hc
      generalize dptr H 0 d = P at CP
      clear h
      unfold ptr at CP ⊢
      go_enter Try.func62, Try.ntmps62
      go_wp2_with fail
      refine CP.out.mono ?_
      rintro e w' ⟨rfl, rfl⟩
      go_wp2
      go_ret2
      exact ⟨by rw [HE.out, HP.out]; rfl, rfl⟩
  · have HE := Lib.hid (show N.powE d = N.pickE d from Bch.powE_no h0)
    have HP := Lib.hid (show dptr H (N.pickE d) d = .pointer none by unfold dptr; rw [if_pos h0])
    have hne : (N.pickE d != 0) = true := by rw [bne_iff_ne]; exact h0
    rw [HP.out] at CP
    generalize N.pickE d = E at CP HE HP hne
    clear h h0
    unfold ptr at CP ⊢
    go_enter Try.func62, Try.ntmps62
    go_wp2_with fail
    refine CP.out.mono ?_
    rintro e w' ⟨rfl, rfl⟩
    go_wp2
    go_ret2
    exact ⟨by rw [HE.out, HP.out]; rfl, rfl⟩
end
end Go.Proofs.Ytadfimimkkimmaa
end
section
namespace Go.Proofs.Ytadfimimkkimmaa
open Go.RowKit

namespace Bch
theorem readE_pow {N : Bch} {d : Int} (k : Int) (h : N.powE d ≠ 0) : N.readE d k = N.powE d ∧ N.read d k = [] := by
  have e : N.readE d k = N.powE d := by unfold readE; rw [if_pos h]
  exact ⟨e, by unfold read; rw [e, if_pos h]⟩
theorem readE_dsk {N : Bch} {d : Int} (k : Int) (h : N.powE d = 0) : N.readE d k = reachE (N.at_ d).f k ∧ N.read d k = (N.at_ d).readE k := by
  have e : N.readE d k = reachE (N.at_ d).f k := by unfold readE; rw [if_neg (by simp [h])]
  refine ⟨e, ?_⟩
  unfold read Dsk.readE
  rw [e]
  by_cases c : reachE (N.at_ d).f k = 0
  · rw [if_neg (by simp [c]), if_pos c]
  · rw [if_pos c, if_neg c]
end Bch
theorem dptr_no (H : BH) {e : Int} (d : Int) (h : e ≠ 0) : dptr H e d = .pointer none := by unfold dptr; rw [if_pos h]
theorem dptr_ok (H : BH) (d : Int) : dptr H 0 d = .pointer (some ⟨H.bk d.toNat, 0, none⟩) := by unfold dptr; rw [if_neg (by simp)]; rfl
section
variable (B b : Nat) (H : BH) (N : Bch) (w : World) (h : BAt w B b H N)
include h
theorem bch_read_any (d k : Int) (hd : i64B d) (hk : i64B k) : Calls Try.prog 35 #[ptr b, .int .i64 d, .int .i64 k] w fun e w' => ∃ v, e = .returned (.tuple #[v, .int .i64 (N.readE d k)]) ∧ OwB 5 w' w.heap.size v (N.read d k) ∧ Below w.heap.size w w' := by
  have CP := Lib.hid (bch_powered_any B b H N w h d hd)
  by_cases h0 : N.powE d = 0
  · rw [h0, dptr_ok] at CP
    have hr := Bch.powE_zero h0
    have hi := Bch.pickE_zero hr.1
    obtain ⟨e1, e2⟩ := Bch.readE_dsk k h0
    have CD := dsk_read_any _ _ _ _ w (h.dsk d.toNat (by omega)) k hk
    rw [show N.D d.toNat = N.at_ d from rfl, ← e1, ← e2] at CD
    have CD := Lib.hid CD
    generalize N.readE d k = E at CD
    generalize N.read d k = x at CD
    clear h h0 hr hi e1 e2
    generalize H.bk d.toNat = db at CP CD
    unfold ptr at CP ⊢
    go_enter Try.func35, Try.ntmps35
    go_wp2_with fail
    refine CP.out.mono ?_
    rintro e w' ⟨rfl, rfl⟩
    go_wp2_with fail
    refine CD.out.mono ?_
    rintro e w1 ⟨v, rfl, ho, hb⟩
    go_wp2
    go_ret2
    exact ⟨v, rfl, ho, hb⟩
  · have HR := Lib.hid (Bch.readE_pow k h0)
    have hne : (N.powE d != 0) = true := by rw [bne_iff_ne]; exact h0
    rw [dptr_no H d h0] at CP
    generalize N.powE d = E at CP HR hne
    clear h h0
    unfold ptr at CP ⊢
    go_enter Try.func35, Try.ntmps35
    go_wp2_with fail
    refine CP.out.mono ?_
    rintro e w' ⟨rfl, rfl⟩
    go_wp2
    go_ret2
    exact ⟨_, by rw [HR.out.1]; rfl, by rw [HR.out.2]; exact OwB.nil _ _ _, Below.refl _ _⟩
theorem bch_failed_any (d : Int) (hd : i64B d) : Calls Try.prog 34 #[ptr b, .int .i64 d] w fun e w' => e = .returned (.bool (N.failed d)) ∧ w' = w := by
  have CP := Lib.hid (bch_pick_any B b H N w h d hd)
  by_cases h0 : N.pickE d = 0
  · rw [h0, dptr_ok] at CP
    have hi := Bch.pickE_zero h0
    have HE := Lib.hid (show N.failed d = (N.at_ d).f by unfold Bch.failed; rw [if_neg (by simp [h0])])
    have CD := Lib.hid (dsk_failed_any _ _ _ _ w (h.dsk d.toNat (by omega)))
    generalize hX : N.D d.toNat = X at CD
    rw [show N.at_ d = X from hX] at HE
    clear h h0 hi hX
    generalize H.bk d.toNat = db at CP CD
    unfold ptr at CP ⊢
    go_enter Try.func34, Try.ntmps34
    go_wp2_with fail
    refine CP.out.mono ?_
    rintro e w' ⟨rfl, rfl⟩
    go_wp2_with fail
    refine CD.out.mono ?_
    rintro e w1 ⟨rfl, rfl⟩
    go_wp2
    go_ret
    exact ⟨by rw [HE.out]; rfl, rfl⟩
  · have HE := Lib.hid (show N.failed d = false by unfold Bch.failed; rw [if_pos h0])
    have hne : (N.pickE d == 0) = false := by rw [beq_eq_false_iff_ne]; exact h0
    rw [dptr_no H d h0] at CP
    generalize N.pickE d = E at CP hne
    clear h h0
    unfold ptr at CP ⊢
    go_enter Try.func34, Try.ntmps34
    go_wp2_with fail
    refine CP.out.mono ?_
    rintro e w' ⟨rfl, rfl⟩
    go_wp2
    go_ret
    exact ⟨by rw [HE.out]; rfl, rfl⟩
theorem bch_flush_any (d : Int) (hd : i64B d) : Calls Try.prog 46 #[ptr b, .int .i64 d] w fun e w' => e = .returned (.int .i64 (N.flushE d)) ∧ BTo w w' B b H N.n (N.flush d) := by
  have Hh := Lib.hid h
  have CP := Lib.hid (bch_powered_any B b H N w h d hd)
  by_cases h0 : N.powE d = 0
  · rw [h0, dptr_ok] at CP
    have hi := Bch.pickE_zero (Bch.powE_zero h0).1
    have HI := Lib.hid (show d.toNat < N.n by omega)
    have e1 : (if (N.at_ d).f = true then (5 : Int) else 0) = N.flushE d := by unfold Bch.flushE; rw [if_neg (show ¬ N.powE d ≠ 0 by simp [h0])]
    have HF := Lib.hid (show N.flush d = N.set d.toNat (N.at_ d).flushE by unfold Bch.flush; rw [if_neg (by simp [h0])])
    have CD := dsk_flush_any _ _ _ _ w (h.dsk d.toNat (by omega))
    rw [show N.D d.toNat = N.at_ d from rfl, e1] at CD
    have CD := Lib.hid CD
    generalize N.flushE d = E at CD
    clear h h0 hi e1
    unfold ptr at CP ⊢
    go_enter Try.func46, Try.ntmps46
    go_wp2_with fail
    refine CP.out.mono ?_
    rintro e w' ⟨rfl, rfl⟩
    go_wp2_with fail
    refine CD.out.mono ?_
    rintro e w1 ⟨pv', rfl, hd1, hc1, hn1⟩
    go_wp2
    go_ret
    exact ⟨rfl, by rw [HF.out]; exact Hh.out.step HI.out hd1 hc1 hn1⟩
  · have HE := Lib.hid (show N.flushE d = N.powE d by unfold Bch.flushE; rw [if_pos h0])
    have HF := Lib.hid (show N.flush d = N by unfold Bch.flush; rw [if_pos h0])
    have hne : (N.powE d != 0) = true := by rw [bne_iff_ne]; exact h0
    rw [dptr_no H d h0] at CP
    generalize N.powE d = E at CP HE hne
    clear h h0
    unfold ptr at CP ⊢
    go_enter Try.func46, Try.ntmps46
    go_wp2_with fail
    refine CP.out.mono ?_
    rintro e w' ⟨rfl, rfl⟩
    go_wp2
    go_ret
    exact ⟨by rw [HE.out]; rfl, by rw [HF.out]; exact Hh.out.self⟩
theorem bch_fail_any (d : Int) (hd : i64B d) : Calls Try.prog 16 #[ptr b, .int .i64 d] w fun e w' => e = .returned (.int .i64 (N.pickE d)) ∧ BTo w w' B b H N.n (N.fail d) := by
  have Hh := Lib.hid h
  have CP := Lib.hid (bch_pick_any B b H N w h d hd)
  by_cases h0 : N.pickE d = 0
  · rw [h0, dptr_ok] at CP
    have hi := Bch.pickE_zero h0
    have HI := Lib.hid (show d.toNat < N.n by omega)
    have HF := Lib.hid (show N.fail d = N.set d.toNat Dsk.failed by unfold Bch.fail; rw [if_neg (by simp [h0])])
    have CD := Lib.hid (dsk_fail_any _ _ _ _ w (h.dsk d.toNat (by omega)))
    have HE := Lib.hid h0
    clear h h0 hi
    unfold ptr at CP ⊢
    go_enter Try.func16, Try.ntmps16
    go_wp2_with fail
    refine CP.out.mono ?_
    rintro e w' ⟨rfl, rfl⟩
    go_wp2_with fail
    refine CD.out.mono ?_
    rintro e w1 ⟨rfl, hd1, hc1⟩
    go_wp2
    go_ret
    exact ⟨by rw [HE.out]; rfl, by rw [HF.out]; exact Hh.out.step HI.out hd1 hc1 (NewOr.none _ _)⟩
  · have HF := Lib.hid (show N.fail d = N by unfold Bch.fail; rw [if_pos h0])
    have hne : (N.pickE d != 0) = true := by rw [bne_iff_ne]; exact h0
    rw [dptr_no H d h0] at CP
    generalize N.pickE d = E at CP hne ⊢
    clear h h0
    unfold ptr at CP ⊢
    go_enter Try.func16, Try.ntmps16
    go_wp2_with fail
    refine CP.out.mono ?_
    rintro e w' ⟨rfl, rfl⟩
    go_wp2
    go_ret
    exact ⟨rfl, by rw [HF.out]; exact Hh.out.self⟩
theorem bch_damage_any (d k : Int) (x : List UInt8) (A : Option Addr) (n c : Nat) (hn : n = x.length) (hd : i64B d) (hk : i64B k) (hr : RdB w w.heap.size A x) (hps : ∀ i, i < N.n → (N.D i).ps.length ≤ 2000000) :
    Calls Try.prog 36 #[ptr b, .int .i64 d, .int .i64 k, .slice A n c] w fun e w' => e = .returned (.int .i64 (N.damageE d k n)) ∧ BTo w w' B b H N.n (N.damage d k x) := by
  have Hh := Lib.hid h
  have CP := Lib.hid (bch_pick_any B b H N w h d hd)
  by_cases h0 : N.pickE d = 0
  · rw [h0, dptr_ok] at CP
    have hi := Bch.pickE_zero h0
    have HI := Lib.hid (show d.toNat < N.n by omega)
    have e1 : takeE (N.at_ d).f k n = N.damageE d k n := by unfold Bch.damageE; rw [if_neg (by simp [h0])]
    have HF := Lib.hid (show N.damage d k x = N.set d.toNat ((N.at_ d).damageE k x) by unfold Bch.damage; rw [if_neg (by simp [h0])])
    have CD := dsk_damage_any _ _ _ _ w (h.dsk d.toNat (by omega)) k x A n c hn hk hr (hps _ (by omega))
    rw [show N.D d.toNat = N.at_ d from rfl, e1] at CD
    have CD := Lib.hid CD
    generalize N.damageE d k n = E at CD
    clear h h0 hi e1 hr hps hn
    unfold ptr at CP ⊢
    go_enter Try.func36, Try.ntmps36
    go_wp2_with fail
    refine CP.out.mono ?_
    rintro e w' ⟨rfl, rfl⟩
    go_wp2_with fail
    refine CD.out.mono ?_
    rintro e w1 ⟨pv', rfl, hd1, hc1, hn1⟩
    go_wp2
    go_ret
    exact ⟨rfl, by rw [HF.out]; exact Hh.out.step HI.out hd1 hc1 hn1⟩
  · have HE := Lib.hid (show N.damageE d k n = N.pickE d by unfold Bch.damageE; rw [if_pos h0])
    have HF := Lib.hid (show N.damage d k x = N by unfold Bch.damage; rw [if_pos h0])
    have hne : (N.pickE d != 0) = true := by rw [bne_iff_ne]; exact h0
    rw [dptr_no H d h0] at CP
    generalize N.pickE d = E at CP HE hne
    clear h h0 hr hps hn
    unfold ptr at CP ⊢
    go_enter Try.func36, Try.ntmps36
    go_wp2_with fail
    refine CP.out.mono ?_
    rintro e w' ⟨rfl, rfl⟩
    go_wp2
    go_ret
    exact ⟨by rw [HE.out]; rfl, by rw [HF.out]; exact Hh.out.self⟩
end
end Go.Proofs.Ytadfimimkkimmaa
end
section
namespace Go.Proofs.Ytadfimimkkimmaa
open Go.RowKit

theorem upd_self {α : Type} (f : Nat → α) (i : Nat) : upd f i (f i) = f := by
  funext j
  by_cases e : j = i
  · subst e; rw [upd_same]
  · rw [upd_other _ _ e]
theorem Bch.set_self (N : Bch) (i : Nat) : N.set i (N.D i) = N := by unfold Bch.set; rw [upd_self]
set_option maxHeartbeats 400000 in
theorem bch_write_any (B b : Nat) (H : BH) (N : Bch) (w : World) (h : BAt w B b H N) (d k : Int) (x : List UInt8) (A : Option Addr) (n c : Nat) (hn : n = x.length) (hd : i64B d) (hk : i64B k) (hr : RdB w w.heap.size A x) (hps : ∀ i, i < N.n → (N.D i).ps.length ≤ 2000000) (hdn : N.done ≤ 2000000) :
    Calls Try.prog 43 #[ptr b, .int .i64 d, .int .i64 k, .slice A n c] w fun e w' => e = .returned (.int .i64 (N.writeE d k n)) ∧ BTo w w' B b H N.n (N.write d k x) := by
  have Hh := Lib.hid h
  have CP := Lib.hid (bch_powered_any B b H N w h d hd)
  subst hn
  have hxl : x.length ≤ 9223372036854775807 := by have := hr.1; omega
  by_cases h0 : N.powE d = 0
  · rw [h0, dptr_ok] at CP
    have hi := Bch.pickE_zero (Bch.powE_zero h0).1
    have HI := Lib.hid (show d.toNat < N.n by omega)
    have Hn := Lib.hid (h.ok.n)
    have CS := Lib.hid (bch_spent_any B b H N w h)
    have Hd := Lib.hid (h.dsk d.toNat (by omega))
    have hp := hps d.toNat (by omega)
    by_cases hl : N.left = 0
    · have hs : (N.left == 0) = true := by rw [hl]; rfl
      rw [hs] at CS
      have CC := Lib.hid (dsk_clone_any _ _ _ _ w Hd.out hp)
      have Hr := Lib.hid hr
      have Hk := Lib.hid hk
      have Hp := Lib.hid hp
      have Hdn := Lib.hid hdn
      have HP := Lib.hid h0
      have HL := Lib.hid hl
      clear h h0 hi hr hk hps hdn hd hs hl hp
      unfold ptr at CP CS ⊢
      go_enter Try.func43, Try.ntmps43
      go_wp2_with fail
      refine CP.out.mono ?_
      rintro e w ⟨rfl, rfl⟩
      go_wp2_with fail
      refine CS.out.mono ?_
      rintro e w ⟨rfl, rfl⟩
      go_wp2_with fail
      refine CC.out.mono ?_
      rintro e w1 ⟨b', pv', rfl, hd1, hb1⟩
      have CW := Lib.hid (dsk_write_any _ _ _ _ w1 hd1 k x A x.length c rfl Hk.out ((Hr.out.below hb1 (Nat.le_refl _)).more hb1.size) Hp.out)
      have Hd1 := Lib.hid hd1
      have Hb1 := Lib.hid hb1
      clear hd1 hb1
      go_wp2_with fail
      refine CW.out.mono ?_
      rintro e w2 ⟨pv2, rfl, hd2, hc2, hn2⟩
      have Hb2 := Lib.hid (show Below w.heap.size w w2 from Hb1.out.trans (hc2.below (fun k hk => (Hd1.out.flt hk).1) Hb1.out.size))
      have Ha := Lib.hid (Hh.out.below Hb2.out)
      clear hd2 hc2 hn2
      by_cases ht : takeE (N.D d.toNat).f k x.length = 0
      · have CN := Lib.hid (bch_count_any _ _ _ _ w2 Ha.out Hdn.out)
        have HE := Lib.hid (show N.writeE d k x.length = N.countE by
          unfold Bch.writeE; rw [if_neg (show ¬ N.powE d ≠ 0 by simp [HP.out]), if_neg (show ¬ takeE (N.at_ d).f k x.length ≠ 0 from fun e => e ht)])
        have HW := Lib.hid (show N.write d k x = N.count by
          unfold Bch.write; rw [if_neg (show ¬ N.powE d ≠ 0 by simp [HP.out]), if_neg (show ¬ takeE (N.at_ d).f k x.length ≠ 0 from fun e => e ht), if_pos HL.out])
        rw [ht]
        unfold ptr at CN
        clear ht
        go_wp2_with fail
        refine CN.out.mono ?_
        rintro e w3 ⟨rfl, ht3⟩
        go_wp2
        go_ret
        exact ⟨by rw [HE.out]; rfl, by rw [HW.out]; exact BTo.seq (chg_below _ Hb2.out) rfl (fun _ h => .inl h) ht3⟩
      · have HE := Lib.hid (show N.writeE d k x.length = takeE (N.D d.toNat).f k x.length by
          unfold Bch.writeE; rw [if_neg (show ¬ N.powE d ≠ 0 by simp [HP.out]), if_pos (show takeE (N.at_ d).f k x.length ≠ 0 from ht)]; rfl)
        have HW := Lib.hid (show N.write d k x = N by
          unfold Bch.write; rw [if_neg (show ¬ N.powE d ≠ 0 by simp [HP.out]), if_pos (show takeE (N.at_ d).f k x.length ≠ 0 from ht)])
        have hne : (takeE (N.D d.toNat).f k x.length != 0) = true := by rw [bne_iff_ne]; exact ht
        clear ht CW
        generalize takeE (N.D d.toNat).f k x.length = E at HE hne ⊢
        go_wp2
        go_ret
        exact ⟨by rw [HE.out]; rfl, by rw [HW.out]; exact Hh.out.grow Hb2.out⟩
    · have hs : (N.left == 0) = false := by rw [beq_eq_false_iff_ne]; exact hl
      rw [hs] at CS
      have CW := Lib.hid (dsk_write_any _ _ _ _ w Hd.out k x A x.length c rfl hk hr hp)
      have Hdn := Lib.hid hdn
      have HP := Lib.hid h0
      have HL := Lib.hid hl
      clear h h0 hi hr hk hps hdn hd hs hl hp
      unfold ptr at CP CS ⊢
      go_enter Try.func43, Try.ntmps43
      go_wp2_with fail
      refine CP.out.mono ?_
      rintro e w ⟨rfl, rfl⟩
      go_wp2_with fail
      refine CS.out.mono ?_
      rintro e w ⟨rfl, rfl⟩
      go_wp2_with fail
      refine CW.out.mono ?_
      rintro e w2 ⟨pv2, rfl, hd2, hc2, hn2⟩
      obtain ⟨H1, a1, c1, ⟨_, g1⟩, n1⟩ := Hh.out.step HI.out hd2 hc2 hn2
      have Hg := Lib.hid g1
      have Ha := Lib.hid a1
      have Hc := Lib.hid c1
      have Hm := Lib.hid n1
      clear hd2 hc2 hn2 a1 c1 n1 g1
      by_cases ht : takeE (N.D d.toNat).f k x.length = 0
      · have CN := Lib.hid (bch_count_any _ _ _ _ w2 Ha.out Hdn.out)
        have HE := Lib.hid (show N.writeE d k x.length = N.countE by
          unfold Bch.writeE; rw [if_neg (show ¬ N.powE d ≠ 0 by simp [HP.out]), if_neg (show ¬ takeE (N.at_ d).f k x.length ≠ 0 from fun e => e ht)])
        have HW := Lib.hid (show N.write d k x = (N.set d.toNat ((N.D d.toNat).writeE k x)).count by
          unfold Bch.write Dsk.writeE; rw [if_neg (show ¬ N.powE d ≠ 0 by simp [HP.out]), if_neg (show ¬ takeE (N.at_ d).f k x.length ≠ 0 from fun e => e ht), if_neg HL.out, if_pos ht]; rfl)
        have HCE : Hid ((N.set d.toNat ((N.D d.toNat).writeE k x)).countE = N.countE) := rfl
        rw [ht]
        rw [HCE.out] at CN
        unfold ptr at CN
        clear ht CW
        go_wp2_with fail
        refine CN.out.mono ?_
        rintro e w3 ⟨rfl, ht3⟩
        go_wp2
        go_ret
        have ht4 : BTo w w3 B b H N.n _ := BTo.seq Hc.out Hg.out Hm.out ht3
        rw [HE.out, HW.out]
        exact ⟨rfl, ht4⟩
      · have HE := Lib.hid (show N.writeE d k x.length = takeE (N.D d.toNat).f k x.length by
          unfold Bch.writeE; rw [if_neg (show ¬ N.powE d ≠ 0 by simp [HP.out]), if_pos (show takeE (N.at_ d).f k x.length ≠ 0 from ht)]; rfl)
        have HW := Lib.hid (show N.write d k x = N.set d.toNat ((N.D d.toNat).writeE k x) by
          unfold Bch.write Dsk.writeE; rw [if_neg (show ¬ N.powE d ≠ 0 by simp [HP.out]), if_pos (show takeE (N.at_ d).f k x.length ≠ 0 from ht), if_neg ht, Bch.set_self])
        have hne : (takeE (N.D d.toNat).f k x.length != 0) = true := by rw [bne_iff_ne]; exact ht
        clear ht CW
        generalize takeE (N.D d.toNat).f k x.length = E at HE hne ⊢
        go_wp2
        go_ret
        exact ⟨by rw [HE.out]; rfl, by rw [HW.out]; exact ⟨H1, Ha.out, Hc.out, ⟨rfl, Hg.out⟩, Hm.out⟩⟩
  · have HE := Lib.hid (show N.writeE d k x.length = N.powE d by unfold Bch.writeE; rw [if_pos h0])
    have HF := Lib.hid (show N.write d k x = N by unfold Bch.write; rw [if_pos h0])
    have hne : (N.powE d != 0) = true := by rw [bne_iff_ne]; exact h0
    rw [dptr_no H d h0] at CP
    generalize N.powE d = E at CP HE hne
    clear h h0 hr hps hdn
    unfold ptr at CP ⊢
    go_enter Try.func43, Try.ntmps43
    go_wp2_with fail
    refine CP.out.mono ?_
    rintro e w ⟨rfl, rfl⟩
    go_wp2
    go_ret
    exact ⟨by rw [HE.out]; rfl, by rw [HF.out]; exact Hh.out.self⟩
end Go.Proofs.Ytadfimimkkimmaa
end
section
namespace Go.Proofs.Ytadfimimkkimmaa
open Go.RowKit

theorem offs_mono (D : Nat → Dsk) {i n : Nat} (h : i ≤ n) : offs D i ≤ offs D n := by
  induction n with
  | zero => obtain rfl : i = 0 := by omega
            exact Nat.le_refl _
  | succ n ih =>
    by_cases e : i = n + 1
    · rw [e]; exact Nat.le_refl _
    · exact Nat.le_trans (ih (by omega)) (Nat.le_add_right _ _)
theorem offs_succ (D : Nat → Dsk) (i : Nat) : offs D (i + 1) = offs D i + (D i).ps.length := rfl
set_option maxHeartbeats 400000 in
theorem bch_pending_eq (B b : Nat) (H : BH) (N : Bch) (w : World) (h : BAt w B b H N) (hps : ∀ i, i < N.n → (N.D i).ps.length ≤ 2000000) :
    Calls Try.prog 33 #[ptr b] w fun e w' => e = .returned (.int .i64 (N.pend : Int)) ∧ w' = w := by
  have Hh := Lib.hid h
  have hc := h.cell 3 _ rfl
  have Hp := Lib.hid hps
  have hn := h.ok.n
  have HP : Hid (N.pend = offs N.D N.n) := rfl
  clear h hps
  unfold ptr
  go_enter Try.func33, Try.ntmps33
  go_wp2
  go_loopw [3, 11] (fun s i wr => ∃ k : Nat, k ≤ N.n ∧ i = .int .i64 k ∧ s = .int .i64 (offs N.D k : Int) ∧ wr = w) (fun _ i _ => N.n - (intOf i).toNat)
  case atStart => exact ⟨0, Nat.zero_le _, rfl, rfl, rfl⟩
  case round =>
    obtain ⟨k, hk, rfl, rfl, rfl⟩ := hrel
    by_cases hlt : k < N.n
    · have i0 : (0 : Int) ≤ (k : Int) := by omega
      have i1 : (k : Int) < (N.n : Int) := by omega
      have hr := Hh.out
      have hp : wr.cell? ⟨H.g, k, none⟩ = some (.pointer (some ⟨H.bk k, 0, none⟩)) := hr.pcell hlt
      have CD := Lib.hid (dsk_pending_any _ _ _ _ wr (hr.dsk k hlt))
      have h1 := offs_pend N.D k fun i hi => Hp.out i (by omega)
      have h2 := Hp.out k hlt
      have n1 : IntKind.i64.wrap ((offs N.D k : Int) + ((N.D k).ps.length : Int)) = (offs N.D k : Int) + ((N.D k).ps.length : Int) := by rw [IntKind.wrap_i64]; omega
      have HS := Lib.hid (show (offs N.D k : Int) + ((N.D k).ps.length : Int) = (offs N.D (k + 1) : Int) by rw [offs_succ]; omega)
      clear hr
      generalize (N.D k).ps.length = p at CD n1 HS h2
      generalize offs N.D k = o at n1 HS h1 ⊢
      go_wp2_with fail
      refine CD.out.mono ?_
      rintro e w2 ⟨rfl, rfl⟩
      go_wp2
      go_roundw
      case rel => exact ⟨k + 1, by omega, by go_num, by rw [HS.out], by first | rfl | trivial⟩
      case measure => simp [intOf]; omega
    · obtain rfl : k = N.n := by omega
      go_wp2
      go_ret
      exact ⟨by rw [HP.out]; rfl, by first | rfl | trivial⟩
theorem bch_pending_any (B b : Nat) (H : BH) (N : Bch) (w : World) (h : BAt w B b H N) (hps : ∀ i, i < N.n → (N.D i).ps.length ≤ 2000000) :
    Calls Try.prog 33 #[ptr b] w fun e w' => e = .returned (.int .i64 (N.pend : Int)) ∧ Below w.heap.size w w' := by
  refine (bch_pending_eq B b H N w h hps).mono ?_
  rintro e w' ⟨rfl, rfl⟩
  exact ⟨rfl, Below.refl _ _⟩
end Go.Proofs.Ytadfimimkkimmaa
end
section
namespace Go.Proofs.Ytadfimimkkimmaa
open Go.RowKit

def rowk (n k : Nat) (bk : Nat → Nat) : List Value := (List.range n).map fun i => if i < k then ptr (bk i) else .pointer none
theorem rowk_len (n k : Nat) (bk : Nat → Nat) : (rowk n k bk).length = n := by unfold rowk; simp
theorem rowk_get {n i : Nat} (k : Nat) (bk : Nat → Nat) (h : i < n) : (rowk n k bk)[i]? = some (if i < k then ptr (bk i) else .pointer none) := by unfold rowk; simp [h]
theorem rowk_all (n : Nat) (bk : Nat → Nat) : rowk n n bk = prow n bk := List.map_congr_left fun i hi => by rw [if_pos (List.mem_range.1 hi)]
theorem rowk_set {n k : Nat} (bk : Nat → Nat) (b : Nat) (h : k < n) : spl (rowk n k bk) k [ptr b] = rowk n (k + 1) (upd bk k b) := by
  apply List.ext_getElem?
  intro j
  have hl : ((rowk n k bk).take k).length = k := by rw [List.length_take, rowk_len]; omega
  unfold spl
  rw [List.append_assoc]
  by_cases hj : j < k
  · rw [List.getElem?_append_left (by omega), List.getElem?_take, if_pos hj, rowk_get _ _ (by omega), rowk_get _ _ (by omega), upd_other _ _ (by omega), if_pos hj, if_pos (by omega)]
  · rw [List.getElem?_append_right (by omega), hl]
    by_cases e : j = k
    · subst e; rw [Nat.sub_self, rowk_get _ _ h, upd_same, if_pos (by omega)]; rfl
    · obtain ⟨m, hm⟩ : ∃ m, j - k = m + 1 := ⟨j - k - 1, by omega⟩
      rw [hm, List.cons_append, List.getElem?_cons_succ, List.nil_append, List.getElem?_drop]
      rw [show k + [ptr b].length + m = j by simp; omega]
      by_cases hjn : j < n
      · rw [rowk_get _ _ hjn, rowk_get _ _ hjn, if_neg (by omega), if_neg (by omega)]
      · rw [List.getElem?_eq_none (by rw [rowk_len]; omega), List.getElem?_eq_none (by rw [rowk_len]; omega)]
structure PAt (w : World) (B b : Nat) (H : BH) (N : Bch) (k : Nat) : Prop where
  blk : w.heap[b]? = some (.cells (bcells H.g N.n N.done N.left N.down).toArray 55 (0, 0))
  row : w.heap[H.g]? = some (.cells (rowk N.n k H.bk).toArray 76 (0, 0))
  dsk : ∀ i, i < k → DskAt w B (H.bk i) (H.pv i) (N.D i)
  le : B ≤ b ∧ B ≤ H.g
  ne : b ≠ H.g
  off : ∀ i, i < k → ∀ j, DF (H.bk i) (H.pv i) j → j ≠ b ∧ j ≠ H.g
  ap : ∀ i j, i < k → j < k → i ≠ j → Apart (H.bk i) (H.pv i) (H.bk j) (H.pv j)
theorem PAt.full {w : World} {B b : Nat} {H : BH} {N : Bch} (h : PAt w B b H N N.n) (hok : N.Ok) : BAt w B b H N :=
  ⟨h.blk, by rw [← rowk_all]; exact h.row, h.dsk, h.le, h.ne, h.off, h.ap, hok⟩
section
variable {w : World} {B b : Nat} {H : BH} {N : Bch} {k : Nat}
theorem PAt.lt (h : PAt w B b H N k) : b < w.heap.size ∧ H.g < w.heap.size := ⟨(Array.getElem?_eq_some_iff.1 h.blk).1, (Array.getElem?_eq_some_iff.1 h.row).1⟩
theorem PAt.below {w1 : World} (h : PAt w B b H N k) (hb : Below w.heap.size w w1) : PAt w1 B b H N k :=
  ⟨(hb.block b h.lt.1).trans h.blk, (hb.block H.g h.lt.2).trans h.row, fun i hi => (h.dsk i hi).below hb, h.le, h.ne, h.off, h.ap⟩
theorem PAt.next {w1 w2 : World} {b' : Nat} {pv' : Value} (h : PAt w B b H N k) (hkn : k < N.n) (hB : B ≤ w.heap.size) (hb : Below w.heap.size w w1) (hd : DskAt w1 w.heap.size b' pv' (N.D k)) (hr : w2.heap[H.g]? = some (.cells (spl (rowk N.n k H.bk) k [ptr b']).toArray 76 (0, 0))) (hc : Chg (fun j => j = H.g) w1 w2) :
    PAt w2 B b { H with bk := upd H.bk k b', pv := upd H.pv k pv' } N (k + 1) := by
  have h1 := h.below hb
  have hnew : ∀ j, DF b' pv' j → w.heap.size ≤ j := fun j hj => DF.le hd hj
  have hl := h.lt
  have hup : ∀ i, i < k + 1 → i ≠ k → i < k := fun i a b => by omega
  refine ⟨?_, ?_, ?_, h.le, h.ne, ?_, ?_⟩
  · exact (hc.block b h1.lt.1 h.ne).trans h1.blk
  · show w2.heap[H.g]? = _
    rw [hr, rowk_set _ _ hkn]
  · intro i hi
    show DskAt w2 B (upd H.bk k b' i) (upd H.pv k pv' i) (N.D i)
    by_cases e : i = k
    · subst e
      rw [upd_same, upd_same]
      exact (hd.mono hB).chg hc (fun e => by have := hnew b' (.inl rfl); omega) fun j hj e => by have := hnew j (.inr hj); omega
    · rw [upd_other _ _ e, upd_other _ _ e]
      exact (h1.dsk i (hup i hi e)).chg hc (fun e2 => (h.off i (hup i hi e) _ (.inl rfl)).2 e2) fun j hj e2 => (h.off i (hup i hi e) j (.inr hj)).2 e2
  · intro i hi j
    show DF (upd H.bk k b' i) (upd H.pv k pv' i) j → _ ∧ j ≠ H.g
    by_cases e : i = k
    · subst e
      rw [upd_same, upd_same]
      intro hj
      have := hnew j hj
      omega
    · rw [upd_other _ _ e, upd_other _ _ e]; exact h.off i (hup i hi e) j
  · intro i j hi hj hij
    show Apart (upd H.bk k b' i) (upd H.pv k pv' i) (upd H.bk k b' j) (upd H.pv k pv' j)
    by_cases e : i = k
    · subst e
      rw [upd_same, upd_same, upd_other _ _ (fun e => hij e.symm), upd_other _ _ (fun e => hij e.symm)]
      intro m h2 h3
      have := hnew m h2
      have := ((h.dsk j (hup j hj (fun e => hij e.symm))).flt h3).2
      omega
    · rw [upd_other _ _ e, upd_other _ _ e]
      by_cases e2 : j = k
      · subst e2
        rw [upd_same, upd_same]
        intro m h2 h3
        have := hnew m h3
        have := ((h.dsk i (hup i hi e)).flt h2).2
        omega
      · rw [upd_other _ _ e2, upd_other _ _ e2]
        exact h.ap i j (hup i hi e) (hup j hj e2) hij
end
theorem info_pdisk : (Try.prog.info? 76).map (fun i => (i.zero, i.size, i.bytes)) = some (some (.pointer none), 1, 8) := by kernel_rfl
theorem rowk_zero (n : Nat) (bk : Nat → Nat) : madeCells #[.pointer none] n = (rowk n 0 bk).toArray := by
  apply Array.toList_inj.1
  apply List.ext_getElem?
  intro j
  rw [toList_madeCells_one, List.getElem?_replicate]
  by_cases h : j < n
  · rw [if_pos h]
    show _ = (rowk n 0 bk)[j]?
    rw [rowk_get _ _ h, if_neg (by omega)]
  · rw [if_neg h]
    show _ = (rowk n 0 bk)[j]?
    rw [List.getElem?_eq_none (by rw [rowk_len]; omega)]
theorem make_pdisks (n : Nat) (hn : n ≤ 1000000) (bk : Nat → Nat) (w : World) :
    (Instr.makeSlice 53 (.int .i64 (n : Int)) (.int .i64 (n : Int))).run Try.prog w = .ok (.slice (some ⟨w.heap.size, 0, none⟩) n n) (w.alloc (.cells (rowk n 0 bk).toArray 76)) := by
  rw [← rowk_zero n bk]
  exact run_make_row' _ _ _ 8 Try.underlying53 info_pdisk rfl _ _ n (by omega) (by omega) w
end Go.Proofs.Ytadfimimkkimmaa
end
section
set_option linter.unusedSimpArgs false
namespace Go.Proofs.Ytadfimimkkimmaa
open Go.RowKit

theorem bch_new_no (n : Int) (w : World) (hn : i64B n) (h : n < 1 ∨ 8 < n) : Calls Try.prog 21 #[.int .i64 n] w fun e w' => e = .returned (.tuple #[.pointer none, .int .i64 1]) ∧ w' = w := by
  obtain ⟨h1, h2⟩ := hn
  by_cases c : n < 1
  · go_enter Try.func21, Try.ntmps21
    go_wp2
    go_ret2
    exact ⟨rfl, rfl⟩
  · have c2 : 8 < n := by omega
    clear h
    go_enter Try.func21, Try.ntmps21
    go_wp2
    go_ret2
    exact ⟨rfl, rfl⟩
theorem build_bch (g n : Nat) (w : World) : (Instr.build 55 #[(1, .slice (some ⟨g, 0, none⟩) n n)]).run Try.prog w = .ok (.agg (bcells g n 0 0 false).toArray) w := by kernel_rfl
set_option maxHeartbeats 800000 in
theorem bch_new_ok (n : Nat) (w : World) (hn : 1 ≤ n ∧ n ≤ 8) : Calls Try.prog 21 #[.int .i64 (n : Int)] w fun e w' => ∃ b H, e = .returned (.tuple #[ptr b, .int .i64 0]) ∧ BAt w' w.heap.size b H (Bch.new n) ∧ Below w.heap.size w w' := by
  have hmk := make_pdisks n (by omega) (fun _ => 0)
  have hbd := build_bch
  obtain ⟨n1, n8⟩ := hn
  have i1 : (1 : Int) ≤ (n : Int) := by omega
  have i8 : (n : Int) ≤ 8 := by omega
  go_enter Try.func21, Try.ntmps21
  go_wp2_with ((refine wpList_build_run rfl 55 #[(1, .tmp 13)] (by rfl) #[(1, .slice (some ⟨w.heap.size, 0, none⟩) n n)] (by rfl) (.agg (bcells w.heap.size n 0 0 false).toArray) (hbd _ _ _) ?_))
  have hp0 : PAt ((w.alloc (.cells (rowk n 0 fun _ => 0).toArray 76)).alloc (.cells #[.int .i64 0, .int .i64 0, .bool false, .slice (some ⟨w.heap.size, 0, none⟩) n n] 55)) w.heap.size (w.heap.size + 1) ⟨w.heap.size, fun _ => 0, fun _ => .slice none 0 0⟩ ⟨n, fun _ => Dsk.new, 0, 0, false⟩ 0 :=
    ⟨hp_new _ _ _ (by simp), (hp_old _ _ _ (by simp)).trans (hp_new _ _ _ rfl), fun i hi => by omega, ⟨by omega, Nat.le_refl _⟩, by show w.heap.size + 1 ≠ w.heap.size; omega, fun i hi => by omega, fun i j hi => by omega⟩
  have hb0 := below2 w (.cells (rowk n 0 fun _ => 0).toArray 76) (.cells #[.int .i64 0, .int .i64 0, .bool false, .slice (some ⟨w.heap.size, 0, none⟩) n n] 55)
  generalize (w.alloc (.cells (rowk n 0 fun _ => 0).toArray 76)).alloc (.cells #[.int .i64 0, .int .i64 0, .bool false, .slice (some ⟨w.heap.size, 0, none⟩) n n] 55) = w0 at hp0 hb0 ⊢
  generalize hB : w.heap.size = B at hp0 hb0 ⊢
  have HB := Lib.hid hB
  clear hmk hbd hB
  go_wp2_with fail
  go_loopw [21] (fun i wr => ∃ (k : Nat) (bk : Nat → Nat) (pv : Nat → Value), k ≤ n ∧ i = .int .i64 k ∧ PAt wr B (B + 1) ⟨B, bk, pv⟩ ⟨n, fun _ => Dsk.new, 0, 0, false⟩ k ∧ Below B w wr) (fun i _ => n - (intOf i).toNat)
  case atStart => exact ⟨0, _, _, Nat.zero_le _, rfl, hp0, hb0⟩
  case round =>
    clear hp0 hb0
    obtain ⟨k, bk, pv, hk, rfl, hp, hb⟩ := hrel
    by_cases hlt : k < n
    · have i2 : (0 : Int) ≤ (k : Int) := by omega
      have i3 : (k : Int) < (n : Int) := by omega
      have Hp := Lib.hid hp
      have Hb := Lib.hid hb
      have Hl := Lib.hid hp.lt
      have HC := Lib.hid (fun V (hV : Below wr.heap.size wr V) => (show V.cell? ⟨B + 1, 3, none⟩ = some (.slice (some ⟨B, 0, none⟩) n n) by rw [cell_of_row _ _ _ _ _ _ (hp.below hV).blk]; rfl))
      clear hp hb
      go_wp2
      refine wp_region_noPanic (region_ord 6 [] (fun V => Below wr.heap.size wr V) (by kernel_rfl) (by kernel_rfl) (fun _ _ _ _ _ h => h) fun R => ?_)
      change anyI _ _ _ _ _ _ 8 _ _ wr.drew
      have HS0 := Lib.hid ((Below.refl wr.heap.size wr).drew)
      refine anyI_take R 0 rfl (v := (.pointer (some ⟨B + 1, 0, none⟩))) (by kernel_rfl) (by rfl) (fun V hV => by go_simp) HS0.out ?_
      try simp only [Act.put, List.getElem_toArray, List.getElem_cons_zero, List.setIfInBounds_toArray, List.set_cons_zero, List.set_cons_succ]
      refine anyI_take R 1 rfl (v := (.pointer (some ⟨B + 1, 0, none⟩))) (by kernel_rfl) (by rfl) (fun V hV => by go_simp) HS0.out ?_
      try simp only [Act.put, List.getElem_toArray, List.getElem_cons_succ, List.getElem_cons_zero, List.setIfInBounds_toArray, List.set_cons_zero, List.set_cons_succ]
      refine anyI_take R 2 rfl (v := (.pointer (some ⟨B + 1, 3, none⟩))) (by kernel_rfl) (by rfl) (fun V hV => by go_simp) HS0.out ?_
      try simp only [Act.put, List.getElem_toArray, List.getElem_cons_succ, List.getElem_cons_zero, List.setIfInBounds_toArray, List.set_cons_zero, List.set_cons_succ]
      refine anyI_take R 3 rfl (v := (.slice (some ⟨B, 0, none⟩) n n)) (by kernel_rfl) (by rfl) (fun V hV => by have hc := HC.out V hV; go_simp) HS0.out ?_
      try simp only [Act.put, List.getElem_toArray, List.getElem_cons_succ, List.getElem_cons_zero, List.setIfInBounds_toArray, List.set_cons_zero, List.set_cons_succ]
      refine anyI_take R 4 rfl (v := (.int .i64 (k : Int))) (by kernel_rfl) (by rfl) (fun V hV => by go_simp) HS0.out ?_
      try simp only [Act.put, List.getElem_toArray, List.getElem_cons_succ, List.getElem_cons_zero, List.setIfInBounds_toArray, List.set_cons_zero, List.set_cons_succ]
      refine anyI_one 5 (by kernel_rfl) rfl ?_
      try simp only [List.getElem_toArray, List.getElem_cons_succ, List.getElem_cons_zero]
      refine opE_step ?_
      rw [if_pos (by rfl)]
      go_simp
      go_at_call 51
      refine (dsk_new_any wr.drew).mono ?_
      rintro e w6 ⟨rfl, hd, hb6⟩
      dsimp only
      have hb6' : Below wr.heap.size wr w6 := HS0.out.trans hb6
      refine ⟨hb6', ?_⟩
      try simp only [Act.put, List.getElem_toArray, List.getElem_cons_succ, List.getElem_cons_zero, List.setIfInBounds_toArray, List.set_cons_zero, List.set_cons_succ]
      refine anyI_tail (by kernel_rfl) ?_
      simp only [List.drop_succ_cons, List.drop_zero]
      clear R
      have Hrow := Lib.hid ((Hp.out.below hb6').row)
      have Hd := Lib.hid hd
      have Hb6 := Lib.hid hb6'
      clear hd hb6 hb6' HS0 HC
      go_wp2_with (refine wpList_store_blk rfl 76 _ _ (by rfl) B k (.pointer (some ⟨wr.heap.size, 0, none⟩)) (by rfl) (by rfl) (rowk n k bk) 76 Hrow.out [.pointer (some ⟨wr.heap.size, 0, none⟩)] (by rfl) 1 rfl size_pdisk (by rw [rowk_len]; omega) (by intro u hu; simp at hu; subst hu; rfl) _ rfl ?_; intro w7 h7 hg7)
      refine NoPanic.normal ?_
      have hc7 := (chg_grown hg7).mono (G := fun j => j = B) fun i _ e => by injection e with e; exact e.symm
      have Hn := Lib.hid (Hp.out.next hlt (by have := Hl.out; omega) Hb6.out Hd.out h7 hc7)
      have Hbb := Lib.hid (show Below B w w7 from (Hb.out.trans (Hb6.out.mono (by have := Hl.out; omega))).trans (hc7.below (fun j e => by omega) (by have := Hl.out; have := Hb6.out.size; omega)))
      clear h7 hg7 hc7 Hrow Hd Hb6
      go_wp2_with fail
      go_roundw
      case rel => exact ⟨k + 1, _, _, by omega, by go_num, Hn.out, Hbb.out⟩
      case measure => simp [intOf]; omega
    · obtain rfl : k = n := by omega
      have ha := hp.full ⟨⟨n1, n8⟩, by show (-1 : Int) ≤ 0 ∧ (0 : Int) ≤ 9223372036854775807; omega⟩
      have CR := Lib.hid (bch_restore_any B (B + 1) _ _ wr ha)
      have Hb := Lib.hid hb
      have Ha := Lib.hid (fun j (hj : BF (B + 1) ⟨B, bk, pv⟩ k j) => ha.flt hj)
      clear hp hb ha
      unfold ptr at CR
      go_wp2_with fail
      refine CR.out.mono ?_
      rintro e w2 ⟨rfl, H2, a2, c2, _, m2⟩
      go_wp2
      go_ret2
      have hs := HB.out
      rw [hs]
      exact ⟨B + 1, H2, rfl, a2, Hb.out.trans (c2.below (fun j hj => (Ha.out j hj).1) (by have := Hb.out.size; omega))⟩
theorem Bch.replace_ok {N : Bch} {d : Int} (h : N.replaceE d = 0) : N.pickE d = 0 ∧ (N.at_ d).f = true := by
  unfold replaceE at h
  by_cases c : N.pickE d = 0
  · refine ⟨c, ?_⟩
    rw [if_neg (show ¬ N.pickE d ≠ 0 by simp [c])] at h
    cases hf : (N.at_ d).f with
    | true => rfl
    | false => simp [hf] at h
  · rw [if_pos c] at h; exact absurd h c
/-- One disk is another one. -/
theorem BAt.swap {w w1 w2 : World} {B b : Nat} {H : BH} {N : Bch} (h : BAt w B b H N) {i b' : Nat} {pv' : Value} {X : Dsk} (hi : i < N.n) (hB : B ≤ w.heap.size) (hb : Below w.heap.size w w1) (hd : DskAt w1 w.heap.size b' pv' X) (hr : w2.heap[H.g]? = some (.cells (spl (prow N.n H.bk) i [ptr b']).toArray 76 (0, 0))) (hc : Chg (fun j => j = H.g) w1 w2) :
    BTo w w2 B b H N.n (N.set i X) := by
  have h1 := h.below hb
  have hnew : ∀ j, DF b' pv' j → w.heap.size ≤ j := fun j hj => DF.le hd hj
  have hl := h.lt
  have hgl := h.glt
  refine ⟨{ H with bk := upd H.bk i b', pv := upd H.pv i pv' }, ⟨?_, ?_, ?_, h.le, h.ne, ?_, ?_, ⟨h.ok.n, h.ok.left⟩⟩, (chg_below _ hb).trans hc fun j _ e => .inr (.inl e), ⟨rfl, rfl⟩, ?_⟩
  · exact (hc.block b h1.lt h.ne).trans h1.blk
  · show w2.heap[H.g]? = _
    rw [hr, prow_set _ _ hi]
    rfl
  · intro j hj
    show DskAt w2 B (upd H.bk i b' j) (upd H.pv i pv' j) (upd N.D i X j)
    by_cases e : j = i
    · subst e
      rw [upd_same, upd_same, upd_same]
      exact (hd.mono hB).chg hc (fun e => by have := hnew b' (.inl rfl); omega) fun k hk e => by have := hnew k (.inr hk); omega
    · rw [upd_other _ _ e, upd_other _ _ e, upd_other _ _ e]
      exact (h1.dsk j hj).chg hc (fun e2 => (h.off j hj _ (.inl rfl)).2 e2) fun k hk e2 => (h.off j hj k (.inr hk)).2 e2
  · intro j hj k
    show DF (upd H.bk i b' j) (upd H.pv i pv' j) k → _ ∧ k ≠ H.g
    by_cases e : j = i
    · subst e
      rw [upd_same, upd_same]
      intro hk
      have := hnew k hk
      omega
    · rw [upd_other _ _ e, upd_other _ _ e]; exact h.off j hj k
  · intro j l hj hlt hjl
    show Apart (upd H.bk i b' j) (upd H.pv i pv' j) (upd H.bk i b' l) (upd H.pv i pv' l)
    by_cases e : j = i
    · subst e
      rw [upd_same, upd_same, upd_other _ _ (fun e => hjl e.symm), upd_other _ _ (fun e => hjl e.symm)]
      intro m h2 h3
      have := hnew m h2
      have := ((h.dsk l hlt).flt h3).2
      omega
    · rw [upd_other _ _ e, upd_other _ _ e]
      by_cases e2 : l = i
      · subst e2
        rw [upd_same, upd_same]
        intro m h2 h3
        have := hnew m h3
        have := ((h.dsk j hj).flt h2).2
        omega
      · rw [upd_other _ _ e2, upd_other _ _ e2]
        exact h.ap j l hj hlt hjl
  · intro k hk
    rcases hk with e | e | ⟨j, hj, e⟩
    · exact .inl (.inl e)
    · exact .inl (.inr (.inl e))
    · revert e
      show DF (upd H.bk i b' j) (upd H.pv i pv' j) k → _
      by_cases e2 : j = i
      · subst e2
        rw [upd_same, upd_same]
        exact fun e => .inr (hnew k e)
      · rw [upd_other _ _ e2, upd_other _ _ e2]
        exact fun e => .inl (.inr (.inr ⟨j, hj, e⟩))
theorem BAt.base {w : World} {B b : Nat} {H : BH} {N : Bch} (h : BAt w B b H N) : B ≤ w.heap.size := by have := h.le; have := h.lt; omega
end Go.Proofs.Ytadfimimkkimmaa
end
section
set_option linter.unusedSimpArgs false
namespace Go.Proofs.Ytadfimimkkimmaa
open Go.RowKit

theorem build_bch2 (g n : Nat) (a l : Int) (d : Bool) (w : World) : (Instr.build 55 #[(0, .agg #[.int .i64 a, .int .i64 l, .bool d]), (1, .slice (some ⟨g, 0, none⟩) n n)]).run Try.prog w = .ok (.agg #[.int .i64 a, .int .i64 l, .bool d, .slice (some ⟨g, 0, none⟩) n n]) w := by kernel_rfl
end Go.Proofs.Ytadfimimkkimmaa
end
