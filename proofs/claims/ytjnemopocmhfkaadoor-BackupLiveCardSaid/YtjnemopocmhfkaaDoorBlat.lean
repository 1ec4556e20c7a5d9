/- Texts put together: BchCalls. -/
import Derived.Test.YtjnemopocmhfkaaDoorBlas
section
namespace Go.Proofs.YtjnemopocmhfkaaDoor
open Go.RowKit

namespace Bch
theorem readE_pow {N : Bch} {d : Int} (k : Int) (h : N.powE d ≠ 0) : N.readE d k = N.powE d ∧ N.read d k = [] := by
  have e : N.readE d k = N.powE d := by unfold readE; rw [if_pos h]
  exact ⟨e, by unfold read; rw [e, if_pos h]⟩
theorem readE_dsk {N : Bch} {d : Int} (k : Int) (h : N.powE d = 0) : N.readE d k = reachE (N.at_ d).f k ∧ N.read d k = (N.at_ d).readE k := by
  have e : N.readE d k = reachE (N.at_ d).f k := by unfold readE; rw [if_neg (by simp [h])]
  refine ⟨e, ?_⟩
  unfold read Dsk.readE
  rw [e]
  by_cases c : reachE (N.at_ d).f k = 0
  · rw [if_neg (by simp [c]), if_pos c]
  · rw [if_pos c, if_neg c]
end Bch
theorem dptr_no (H : BH) {e : Int} (d : Int) (h : e ≠ 0) : dptr H e d = .pointer none := by unfold dptr; rw [if_pos h]
theorem dptr_ok (H : BH) (d : Int) : dptr H 0 d = .pointer (some ⟨H.bk d.toNat, 0, none⟩) := by unfold dptr; rw [if_neg (by simp)]; rfl
section
variable (B b : Nat) (H : BH) (N : Bch) (w : World) (h : BAt w B b H N)
include h
theorem bch_read_any (d k : Int) (hd : i64B d) (hk : i64B k) : Calls Tryd.prog 19 #[ptr b, .int .i64 d, .int .i64 k] w fun e w' => ∃ v, e = .returned (.tuple #[v, .int .i64 (N.readE d k)]) ∧ OwB 5 w' w.heap.size v (N.read d k) ∧ Below w.heap.size w w' := by
  have CP := Lib.hid (bch_powered_any B b H N w h d hd)
  by_cases h0 : N.powE d = 0
  · rw [h0, dptr_ok] at CP
    have hr := Bch.powE_zero h0
    have hi := Bch.pickE_zero hr.1
    obtain ⟨e1, e2⟩ := Bch.readE_dsk k h0
    have CD := dsk_read_any _ _ _ _ w (h.dsk d.toNat (by omega)) k hk
    rw [show N.D d.toNat = N.at_ d from rfl, ← e1, ← e2] at CD
    have CD := Lib.hid CD
    generalize N.readE d k = E at CD
    generalize N.read d k = x at CD
    clear h h0 hr hi e1 e2
    generalize H.bk d.toNat = db at CP CD
    unfold ptr at CP ⊢
    go_enter Tryd.func19, Tryd.ntmps19
    go_wp2_with fail
    refine CP.out.mono ?_
    rintro e w' ⟨rfl, rfl⟩
    go_wp2_with fail
    refine CD.out.mono ?_
    rintro e w1 ⟨v, rfl, ho, hb⟩
    go_wp2
    go_ret2
    exact ⟨v, rfl, ho, hb⟩
  · have HR := Lib.hid (Bch.readE_pow k h0)
    have hne : (N.powE d != 0) = true := by rw [bne_iff_ne]; exact h0
    rw [dptr_no H d h0] at CP
    generalize N.powE d = E at CP HR hne
    clear h h0
    unfold ptr at CP ⊢
    go_enter Tryd.func19, Tryd.ntmps19
    go_wp2_with fail
    refine CP.out.mono ?_
    rintro e w' ⟨rfl, rfl⟩
    go_wp2
    go_ret2
    exact ⟨_, by rw [HR.out.1]; rfl, by rw [HR.out.2]; exact OwB.nil _ _ _, Below.refl _ _⟩
theorem bch_flush_any (d : Int) (hd : i64B d) : Calls Tryd.prog 31 #[ptr b, .int .i64 d] w fun e w' => e = .returned (.int .i64 (N.flushE d)) ∧ BTo w w' B b H N.n (N.flush d) := by
  have Hh := Lib.hid h
  have CP := Lib.hid (bch_powered_any B b H N w h d hd)
  by_cases h0 : N.powE d = 0
  · rw [h0, dptr_ok] at CP
    have hi := Bch.pickE_zero (Bch.powE_zero h0).1
    have HI := Lib.hid (show d.toNat < N.n by omega)
    have e1 : (if (N.at_ d).f = true then (5 : Int) else 0) = N.flushE d := by unfold Bch.flushE; rw [if_neg (show ¬ N.powE d ≠ 0 by simp [h0])]
    have HF := Lib.hid (show N.flush d = N.set d.toNat (N.at_ d).flushE by unfold Bch.flush; rw [if_neg (by simp [h0])])
    have CD := dsk_flush_any _ _ _ _ w (h.dsk d.toNat (by omega))
    rw [show N.D d.toNat = N.at_ d from rfl, e1] at CD
    have CD := Lib.hid CD
    generalize N.flushE d = E at CD
    clear h h0 hi e1
    unfold ptr at CP ⊢
    go_enter Tryd.func31, Tryd.ntmps31
    go_wp2_with fail
    refine CP.out.mono ?_
    rintro e w' ⟨rfl, rfl⟩
    go_wp2_with fail
    refine CD.out.mono ?_
    rintro e w1 ⟨pv', rfl, hd1, hc1, hn1⟩
    go_wp2
    go_ret
    exact ⟨rfl, by rw [HF.out]; exact Hh.out.step HI.out hd1 hc1 hn1⟩
  · have HE := Lib.hid (show N.flushE d = N.powE d by unfold Bch.flushE; rw [if_pos h0])
    have HF := Lib.hid (show N.flush d = N by unfold Bch.flush; rw [if_pos h0])
    have hne : (N.powE d != 0) = true := by rw [bne_iff_ne]; exact h0
    rw [dptr_no H d h0] at CP
    generalize N.powE d = E at CP HE hne
    clear h h0
    unfold ptr at CP ⊢
    go_enter Tryd.func31, Tryd.ntmps31
    go_wp2_with fail
    refine CP.out.mono ?_
    rintro e w' ⟨rfl, rfl⟩
    go_wp2
    go_ret
    exact ⟨by rw [HE.out]; rfl, by rw [HF.out]; exact Hh.out.self⟩
theorem bch_fail_any (d : Int) (hd : i64B d) : Calls Tryd.prog 16 #[ptr b, .int .i64 d] w fun e w' => e = .returned (.int .i64 (N.pickE d)) ∧ BTo w w' B b H N.n (N.fail d) := by
  have Hh := Lib.hid h
  have CP := Lib.hid (bch_pick_any B b H N w h d hd)
  by_cases h0 : N.pickE d = 0
  · rw [h0, dptr_ok] at CP
    have hi := Bch.pickE_zero h0
    have HI := Lib.hid (show d.toNat < N.n by omega)
    have HF := Lib.hid (show N.fail d = N.set d.toNat Dsk.failed by unfold Bch.fail; rw [if_neg (by simp [h0])])
    have CD := Lib.hid (dsk_fail_any _ _ _ _ w (h.dsk d.toNat (by omega)))
    have HE := Lib.hid h0
    clear h h0 hi
    unfold ptr at CP ⊢
    go_enter Tryd.func16, Tryd.ntmps16
    go_wp2_with fail
    refine CP.out.mono ?_
    rintro e w' ⟨rfl, rfl⟩
    go_wp2_with fail
    refine CD.out.mono ?_
    rintro e w1 ⟨rfl, hd1, hc1⟩
    go_wp2
    go_ret
    exact ⟨by rw [HE.out]; rfl, by rw [HF.out]; exact Hh.out.step HI.out hd1 hc1 (NewOr.none _ _)⟩
  · have HF := Lib.hid (show N.fail d = N by unfold Bch.fail; rw [if_pos h0])
    have hne : (N.pickE d != 0) = true := by rw [bne_iff_ne]; exact h0
    rw [dptr_no H d h0] at CP
    generalize N.pickE d = E at CP hne ⊢
    clear h h0
    unfold ptr at CP ⊢
    go_enter Tryd.func16, Tryd.ntmps16
    go_wp2_with fail
    refine CP.out.mono ?_
    rintro e w' ⟨rfl, rfl⟩
    go_wp2
    go_ret
    exact ⟨rfl, by rw [HF.out]; exact Hh.out.self⟩
end
end Go.Proofs.YtjnemopocmhfkaaDoor
end
