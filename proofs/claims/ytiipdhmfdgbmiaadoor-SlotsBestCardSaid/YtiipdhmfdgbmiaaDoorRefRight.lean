/- What the document's own Right computes. -/
import Derived.Test.YtiipdhmfdgbmiaaDoorRefCrc
set_option maxRecDepth 8000
namespace Go.Proofs.YtiipdhmfdgbmiaaDoor
open Go.RowKit

theorem refRightNo_any (A Ap : Option Addr) (n c np cp : Nat) (w : World) (hn : n ≠ 32) :
    Calls Tryd.prog 56 #[.slice A n c, .slice Ap np cp] w fun e w' => e = .returned (.bool false) ∧ Below w.heap.size w w' := by
  have h1 : ((n : Int) != 32) = true := by rw [bne_iff_ne]; omega
  go_enter Tryd.func56, Tryd.ntmps56
  go_wp2
  go_ret
  exact ⟨rfl, Below.refl _ _⟩
set_option maxHeartbeats 1000000 in
theorem refRight_any (A Ap : Option Addr) (c cp : Nat) (bs : List UInt8) (rs : List (List UInt8)) (n : Nat) (w : World) (hn : rs.length = n) (hn2 : n ≤ 1000000) (hbs : bs.length = 32) (hr : RdB w w.heap.size A bs) (hp : RdR w w.heap.size Ap rs) :
    Calls Tryd.prog 56 #[.slice A 32 c, .slice Ap n cp] w fun e w' => e = .returned (.bool (rightB bs rs)) ∧ Below w.heap.size w w' := by
  have C := Lib.hid (refSealed_any A Ap c cp bs rs n w hn hn2 hbs hr hp)
  have Hno := Lib.hid (@rightB_no bs rs)
  have Hyes := Lib.hid (@rightB_yes bs rs hbs)
  have Hg : Hid (∀ k, k < 4 → (stamped bs rs).getD (28 + k) 0 = beB (sumR (bs.take 28 :: rs)) k) := Lib.hid fun k hk => by
    unfold stamped
    rw [← be4_get _ k hk, List.getD_eq_getElem?_getD, List.getElem?_append_right (by simp; omega), List.getD_eq_getElem?_getD]
    simp [hbs]
  have Hl := Lib.hid (stamped_len bs rs hbs)
  obtain ⟨b, off, rfl, hb, hcell⟩ := hr.2 (by omega)
  have d0 := hcell 28 (by omega)
  have d1 := hcell 29 (by omega)
  have d2 := hcell 30 (by omega)
  have d3 := hcell 31 (by omega)
  generalize stamped bs rs = out at C Hg Hl
  generalize sumR (bs.take 28 :: rs) = x at Hno Hyes Hg
  generalize rightB bs rs = r at Hno Hyes
  have n0 := Lib.hid (Hno.out 0 (by omega))
  have n1 := Lib.hid (Hno.out 1 (by omega))
  have n2 := Lib.hid (Hno.out 2 (by omega))
  have n3 := Lib.hid (Hno.out 3 (by omega))
  have g0 := Lib.hid (Hg.out 0 (by omega))
  have g1 := Lib.hid (Hg.out 1 (by omega))
  have g2 := Lib.hid (Hg.out 2 (by omega))
  have g3 := Lib.hid (Hg.out 3 (by omega))
  have hy : Hid (bs.getD 28 0 = beB x 0 → bs.getD 29 0 = beB x 1 → bs.getD 30 0 = beB x 2 → bs.getD 31 0 = beB x 3 → r = true) := Lib.hid fun a0 a1 a2 a3 => Hyes.out fun k hk => by
    match k, hk with
    | 0, _ => exact a0
    | 1, _ => exact a1
    | 2, _ => exact a2
    | 3, _ => exact a3
  clear Hno Hyes Hg hcell hp hr
  simp only [Nat.add_zero, Nat.reduceAdd] at n0 n1 n2 n3 g0 g1 g2 g3
  generalize bs.getD 28 0 = y0 at d0 n0 hy
  generalize bs.getD 29 0 = y1 at d1 n1 hy
  generalize bs.getD 30 0 = y2 at d2 n2 hy
  generalize bs.getD 31 0 = y3 at d3 n3 hy
  generalize beB x 0 = x0 at n0 g0 hy
  generalize beB x 1 = x1 at n1 g1 hy
  generalize beB x 2 = x2 at n2 g2 hy
  generalize beB x 3 = x3 at n3 g3 hy
  go_enter Tryd.func56, Tryd.ntmps56
  go_wp2_with (go_at_call 51; refine C.out.mono ?_; rintro e w1 ⟨v, rfl, hown, hb1⟩; obtain ⟨g, cap, rfl, hBg, hglt, hcap, hcm, hrd⟩ := hown.pos (by rw [Hl.out]; omega); rw [Hl.out] at hown hcap ⊢)
  obtain ⟨c0, _⟩ := hown.cell Hl.out 28 (by omega)
  obtain ⟨c1, _⟩ := hown.cell Hl.out 29 (by omega)
  obtain ⟨c2, _⟩ := hown.cell Hl.out 30 (by omega)
  obtain ⟨c3, _⟩ := hown.cell Hl.out 31 (by omega)
  rw [g0.out] at c0
  rw [g1.out] at c1
  rw [g2.out] at c2
  rw [g3.out] at c3
  rw [← hb1.cell (p := ⟨b, off + 28, none⟩) hb] at d0
  rw [← hb1.cell (p := ⟨b, off + 29, none⟩) hb] at d1
  rw [← hb1.cell (p := ⟨b, off + 30, none⟩) hb] at d2
  rw [← hb1.cell (p := ⟨b, off + 31, none⟩) hb] at d3
  clear hown hrd C g0 g1 g2 g3
  have Hb1 := Lib.hid hb1
  clear hb1
  by_cases q0 : y0 = x0
  · subst q0
    by_cases q1 : y1 = x1
    · subst q1
      by_cases q2 : y2 = x2
      · subst q2
        by_cases q3 : y3 = x3
        · subst q3
          have hR := Lib.hid (hy.out rfl rfl rfl rfl)
          clear hy n0 n1 n2 n3
          go_quiet (fail)
          go_wp2
          go_ret
          exact ⟨by rw [hR.out]; rfl, Hb1.out.trans (belowN _ _ _)⟩
        · have hR := Lib.hid (n3.out q3)
          have e3 := u8_beq_no (Ne.symm q3)
          clear hy n0 n1 n2 n3 q3
          go_quiet (fail)
          go_wp2
          go_ret
          exact ⟨by rw [hR.out]; rfl, Hb1.out.trans (belowN _ _ _)⟩
      · have hR := Lib.hid (n2.out q2)
        have e2 := u8_beq_no (Ne.symm q2)
        clear hy n0 n1 n2 n3 q2
        go_quiet (fail)
        go_wp2
        go_ret
        exact ⟨by rw [hR.out]; rfl, Hb1.out.trans (belowN _ _ _)⟩
    · have hR := Lib.hid (n1.out q1)
      have e1 := u8_beq_no (Ne.symm q1)
      clear hy n0 n1 n2 n3 q1
      go_quiet (fail)
      go_wp2
      go_ret
      exact ⟨by rw [hR.out]; rfl, Hb1.out.trans (belowN _ _ _)⟩
  · have hR := Lib.hid (n0.out q0)
    have e0 := u8_beq_no (Ne.symm q0)
    clear hy n0 n1 n2 n3 q0
    go_quiet (fail)
    go_wp2
    go_ret
    exact ⟨by rw [hR.out]; rfl, Hb1.out.trans (belowN _ _ _)⟩
theorem refRight_n (A Ap : Option Addr) (m c cp : Nat) (bs : List UInt8) (rs : List (List UInt8)) (n : Nat) (w : World) (hm : m = 32) (hn : rs.length = n) (hn2 : n ≤ 1000000) (hbs : bs.length = 32) (hr : RdB w w.heap.size A bs) (hp : RdR w w.heap.size Ap rs) :
    Calls Tryd.prog 56 #[.slice A m c, .slice Ap n cp] w fun e w' => e = .returned (.bool (rightB bs rs)) ∧ Below w.heap.size w w' := by
  subst hm
  exact refRight_any A Ap c cp bs rs n w hn hn2 hbs hr hp
end Go.Proofs.YtiipdhmfdgbmiaaDoor
