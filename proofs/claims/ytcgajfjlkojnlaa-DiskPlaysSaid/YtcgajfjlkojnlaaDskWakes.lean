/- The document's example: a new disk reads as zeros. -/
import Derived.Test.YtcgajfjlkojnlaaDskAll
import Derived.Test.YtcgajfjlkojnlaaKeep
namespace Go.Proofs.Ytcgajfjlkojnlaa
open Go.RowKit

theorem makeS (w : World) : (Instr.makeSlice 25 (.int .i64 32) (.int .i64 32)).run Try.prog w = .ok (.slice (some ⟨w.heap.size, 0, none⟩) 32 32) (w.alloc (.cells (zcells 32) 5)) := make_bytes 32 (by omega) w
theorem same_eq (A A' : Option Addr) (n c c' B : Nat) (bs : List UInt8) (w : World) (hn : n = bs.length) (hr : RdB w B A bs) (hr' : RdB w B A' bs) :
    Calls Try.prog 22 #[.slice A n c, .slice A' n c'] w fun e w' => e = .returned (.bool true) ∧ Below w.heap.size w w' := by
  refine (same_any A A' n n c c' B bs bs w hn hn hr hr').mono ?_
  rintro e w' ⟨rfl, m, rfl⟩
  exact ⟨by rw [decide_eq_true rfl], belowN _ _ _⟩
set_option maxHeartbeats 400000 in
theorem dwakes_any (w : World) : Calls Try.prog 20 #[] w fun e w' => e = .returned (.bool true) ∧ Below w.heap.size w w' := by
  have hmk := makeS
  have hz := sec_zero (k := 0) (by omega)
  have CN := Lib.hid (dsk_new_any w)
  go_enter Try.func20, Try.ntmps20
  go_wp2_with fail
  refine CN.out.mono ?_
  rintro e w1 ⟨rfl, hd, hb1⟩
  have hb1s := hb1.size
  have hpn : ∀ W : World, (binOp .eql 22 (.pointer (some ⟨w.heap.size, 0, none⟩)) (.pointer none)).run Try.prog W = .ok (.bool false) W := fun _ => rfl
  have CR := Lib.hid (dsk_read_any _ _ _ _ w1 hd 0 (by omega))
  have hr0 : reachE Dsk.new.f 0 = 0 := reachE_ok (by omega) (by omega)
  have hrd : Dsk.new.readE 0 = List.replicate 32 0 := by unfold Dsk.readE; rw [if_pos hr0, new_now]; exact hz
  rw [hr0, hrd] at CR
  clear hr0 hrd hz
  generalize hbe : w.heap.size = b at hd hb1 hb1s hpn CR ⊢
  have HB := Lib.hid hbe
  clear hbe
  go_wp2_with fail
  refine CR.out.mono ?_
  rintro e w2 ⟨v, rfl, ho, hb2⟩
  obtain ⟨A, c, rfl, _, hrv⟩ := ho.rd
  have hd2 := hd.below hb2
  have hs2 := hb2.size
  rw [show (List.replicate 32 (0 : UInt8)).length = 32 from rfl] at ho ⊢
  have hmo := own_make 5 w2 32 (by omega)
  have CS := Lib.hid (same_eq A (some ⟨w2.heap.size, 0, none⟩) 32 c 32 (w2.heap.size + 1) (List.replicate 32 0) (w2.alloc (.cells (zcells 32) 5)) rfl ((hrv.below (below1 w2 _) (Nat.le_refl _)).more (by omega)) (by have := hmo.rdS.1; exact this.more (by simp)))
  have hd3 := hd2.below (below1 w2 (.cells (zcells 32) 5))
  have Hb3 := Lib.hid ((hb1.trans (hb2.mono hb1s)).trans ((below1 w2 (.cells (zcells 32) 5)).mono (by omega)))
  have Hd3 := Lib.hid hd3
  clear hmo hrv ho hb2 hb1 hd hd2 hd3
  go_wp2_with (first
    | (go_at_call 22; refine CS.out.mono ?_; rintro e w4 ⟨rfl, hb4⟩; have Hd4 := Lib.hid (Hd3.out.below hb4); have Hb4 := Lib.hid (Hb3.out.trans (hb4.mono (by simp; omega))); clear hb4)
    | (go_at_call 19; refine (dsk_pending_any _ _ _ _ w4 Hd4.out).mono ?_; rintro e w5 ⟨rfl, rfl⟩)
    | (go_at_call 18; refine (dsk_failed_any _ _ _ _ _ Hd4.out).mono ?_; rintro e w6 ⟨rfl, rfl⟩))
  go_ret
  exact ⟨rfl, by rw [HB.out]; exact Hb4.out⟩
end Go.Proofs.Ytcgajfjlkojnlaa
