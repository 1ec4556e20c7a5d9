/- Texts put together: Off, DskDamage, SameS. -/
import Derived.Test.YtjnemopocmhfkaaDoorBlan
import Derived.Test.YtjnemopocmhfkaaDoorBlag
import Derived.Test.YtjnemopocmhfkaaDoorBlaf
section
namespace Go.Proofs.YtjnemopocmhfkaaDoor
open Go.RowKit

def Off (v : Value) (b : Nat) (pv : Value) : Prop := ∀ k, v.ownBlock = some k → ¬ DF b pv k
/-- Two disks beside one another. -/
def Apart (b : Nat) (pv : Value) (b2 : Nat) (pv2 : Value) : Prop := ∀ k, DF b pv k → ¬ DF b2 pv2 k
theorem DskAt.apart {w w' : World} {B b b2 : Nat} {pv pv2 : Value} {D : Dsk} (hd : DskAt w B b pv D) (h : Apart b pv b2 pv2) (hc : Chg (DF b2 pv2) w w') : DskAt w' B b pv D :=
  hd.chg hc (fun e => h b (.inl rfl) e) fun k hk e => h k (.inr hk) e
end Go.Proofs.YtjnemopocmhfkaaDoor
end
section
set_option maxRecDepth 8000
namespace Go.Proofs.YtjnemopocmhfkaaDoor
open Go.RowKit

end Go.Proofs.YtjnemopocmhfkaaDoor
end
section
set_option maxRecDepth 20000
set_option linter.unusedVariables false
set_option linter.unusedSimpArgs false
namespace Go.Proofs.YtjnemopocmhfkaaDoor
open Go.RowKit

theorem rowsT_snoc {ra rb : List (List UInt8)} {j : Nat} (h : ra.take j = rb.take j) (hj : j < ra.length) (hj' : j < rb.length) (he : ra.getD j [] = rb.getD j []) : ra.take (j + 1) = rb.take (j + 1) := by
  rw [List.take_succ_eq_append_getElem hj, List.take_succ_eq_append_getElem hj', h]
  have e : ra[j] = rb[j] := by simpa [hj, hj'] using he
  rw [e]
set_option maxHeartbeats 400000 in
theorem sameS_any (A A' : Option Addr) (ra rb : List (List UInt8)) (n n' c c' : Nat) (w : World) (hn : ra.length = n) (hn' : rb.length = n') (hr : RdR w w.heap.size A ra) (hr' : RdR w w.heap.size A' rb) :
    Calls Tryd.prog 12 #[.slice A n c, .slice A' n' c'] w fun e w' => e = .returned (.bool (decide (ra = rb))) ∧ Below w.heap.size w w' := by
  subst hn hn'
  have hl := hr.1
  have hl' := hr'.1
  by_cases hlen : ra.length = rb.length
  · have hle := Lib.hid hlen
    have hne : ((ra.length : Int) != (rb.length : Int)) = false := by rw [hlen]; simp
    clear hlen
    go_enter Tryd.func12, Tryd.ntmps12
    go_wp2
    go_loopw [13] (fun i wr => ∃ j : Nat, j ≤ ra.length ∧ i = .int .i64 j ∧ ra.take j = rb.take j ∧ Below w.heap.size w wr) (fun i _ => ra.length - (intOf i).toNat)
    case atStart => exact ⟨0, Nat.zero_le _, rfl, rfl, Below.refl _ _⟩
    case round =>
      obtain ⟨j, hj, rfl, htk, hbr⟩ := hrel
      have Htk := Lib.hid htk
      clear htk
      by_cases hlt : j < ra.length
      · have hlt' : j < rb.length := by have := hle.out; omega
        obtain ⟨b, off, rfl, hb, hc⟩ := hr.2 (by omega)
        obtain ⟨b', off', rfl, hb', hc'⟩ := hr'.2 (by omega)
        obtain ⟨A1, c1, h1, r1⟩ := hc j hlt
        rw [← hbr.cell (p := ⟨b, off + j, none⟩) hb] at h1
        obtain ⟨A2, c2, h2, r2⟩ := hc' j hlt'
        rw [← hbr.cell (p := ⟨b', off' + j, none⟩) hb'] at h2
        have i0 : (0 : Int) ≤ (j : Int) := by omega
        have i1 : (j : Int) < (ra.length : Int) := by omega
        have i2 : (j : Int) < (rb.length : Int) := by omega
        have Hne := Lib.hid (show ra.getD j [] ≠ rb.getD j [] → decide (ra = rb) = false from fun h => by simpa using fun e : ra = rb => h (by rw [e]))
        have Hsn := Lib.hid (show ra.getD j [] = rb.getD j [] → ra.take (j + 1) = rb.take (j + 1) from fun h => rowsT_snoc Htk.out hlt hlt' h)
        generalize ra.getD j [] = x at h1 r1 Hne Hsn
        generalize rb.getD j [] = y at h2 r2 Hne Hsn
        clear hc hc'
        have CS := Lib.hid (fun n => Calls.quiet_of (same_any A1 A2 x.length y.length c1 c2 w.heap.size x y (wr.drewN n) rfl rfl (r1.below (hbr.trans (belowN _ _ n)) (Nat.le_refl _)) (r2.below (hbr.trans (belowN _ _ n)) (Nat.le_refl _))))
        by_cases he : x = y
        · have Hs := Lib.hid (Hsn.out he)
          rw [decide_eq_true he] at CS
          clear he
          go_wp2
          go_quiet ((go_at_call 20; exact CS.out _))
          go_wp2
          go_roundw
          case rel => exact ⟨j + 1, by omega, by go_num, Hs.out, hbr.trans (belowN _ _ nq)⟩
          case measure => simp [intOf]; omega
        · have Hd := Lib.hid (Hne.out he)
          rw [decide_eq_false he] at CS
          clear he
          go_wp2
          go_quiet ((go_at_call 20; exact CS.out _))
          go_wp2
          go_ret
          exact ⟨by rw [Hd.out]; rfl, hbr.trans (belowN _ _ nq)⟩
      · obtain rfl : j = ra.length := by omega
        have Hd := Lib.hid (show decide (ra = rb) = true by
          have h1 := Htk.out
          rw [List.take_length, hle.out, List.take_length] at h1
          exact decide_eq_true h1)
        go_wp2
        go_ret
        exact ⟨by rw [Hd.out]; rfl, hbr⟩
  · go_enter Tryd.func12, Tryd.ntmps12
    have hne : ((ra.length : Int) != (rb.length : Int)) = true := by rw [bne_iff_ne]; omega
    go_wp2
    go_ret
    exact ⟨by rw [decide_eq_false (fun h => hlen (by rw [h]))]; rfl, Below.refl _ _⟩
end Go.Proofs.YtjnemopocmhfkaaDoor
end
