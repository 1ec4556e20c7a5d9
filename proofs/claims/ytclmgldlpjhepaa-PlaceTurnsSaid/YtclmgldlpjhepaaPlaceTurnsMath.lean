/- Parity goes round, in plain numbers; what stays while PlaceTurns runs. -/
import Derived.Test.YtclmgldlpjhepaaPlaceAll
import Derived.Test.YtclmgldlpjhepaaPlaceWakes
import Derived.Test.YtclmgldlpjhepaaPlayGood
import Derived.Test.YtclmgldlpjhepaaMapInt
import Derived.Test.YtclmgldlpjhepaaRefNums
import Derived.Maps.RangeWalk
namespace Go.Proofs.Ytclmgldlpjhepaa
open Go.RowKit

/-- Which disks had parity, behind s stripes. -/
def tF (d : Int) (s : Nat) : Int → Option Int := fun x => if d - (s : Int) ≤ x ∧ x < d then some 1 else none
theorem tF_zero (d : Int) : tF d 0 = fun _ => none := by funext x; unfold tF; rw [if_neg (by omega)]
theorem tF_new (d : Int) (s : Nat) : (tF d s) (d - 1 - (s : Int)) = none := by unfold tF; rw [if_neg (by omega)]
theorem tF_succ (d : Int) (s : Nat) : putF (tF d s) (d - 1 - (s : Int)) 1 = tF d (s + 1) := by
  funext x
  unfold putF tF
  by_cases h : x = d - 1 - (s : Int)
  · rw [if_pos h, if_pos (by omega)]
  · rw [if_neg h]
    by_cases h2 : d - (s : Int) ≤ x ∧ x < d
    · rw [if_pos h2, if_pos (by omega)]
    · rw [if_neg h2, if_neg (by omega)]
theorem tF_one {d : Int} {s : Nat} {x y : Int} (h : tF d s x = some y) : y = 1 := by
  unfold tF at h
  split at h
  · injection h with h; exact h.symm
  · cases h
theorem turn_row {l d c r : Int} {s : Nat} (hg : gOk l d c = true) (hs : (s : Int) < d) (h16 : (s : Int) * c < 16) (h0 : (s : Int) * c ≤ r) (h1 : r < ((s : Int) + 1) * c) : plOk l d c r = true ∧ plP l d c r = d - 1 - (s : Int) := by
  have hc := (gOk_yes hg).2.2
  have hq : r / c = (s : Int) ∧ 0 ≤ r ∧ r < 16 := by rcases hc with rfl | rfl | rfl <;> omega
  have hk := plOk_mk hg hq.2.1 hq.2.2
  refine ⟨hk, ?_⟩
  rw [plP_yes hk, hq.1, Int.emod_eq_of_lt (by omega) hs]
structure TS (w W : World) (gb mb : Nat) (l d c : Int) (s : Nat) : Prop where
  gs : GS w w.heap.size gb l d c W
  mp : MapI W mb s (tF d s)
  lo : w.heap.size ≤ mb
  ne : mb ≠ gb
theorem TS.below {w W W' : World} {gb mb : Nat} {l d c : Int} {s : Nat} (h : TS w W gb mb l d c s) (hb : Below W.heap.size W W') : TS w W' gb mb l d c s := ⟨h.gs.later hb, h.mp.below hb, h.lo, h.ne⟩
theorem MapI.look0 {w : World} {B n : Nat} {F : Int → Option Int} (h : MapI w B n F) (x : Int) (hx : -9223372036854775808 ≤ x ∧ x ≤ 9223372036854775807) : (Instr.lookup 39 (.map (some B)) (.int .i64 x) false).run Try.prog w = .ok (.int .i64 ((F x).getD 0)) w := by
  obtain ⟨D, ho, hr⟩ := h
  have hw : (Lit.int .i64 x).wf = true := WalkArith.wf_i64 hx
  obtain ⟨v, ps, hrun, hv⟩ := ho.lookup keyI Try.underlying39 (zeroInt w) (plainElem_int Try.underlying3 (by decide)) (keyI_of x hw)
  rw [(hr x).2] at hv
  obtain ⟨c, rfl, hc, _⟩ := plainElem_int_inv Try.underlying3 hv
  simp only [Prod.mk.injEq] at hc
  have : (F x).getD 0 = c := by
    have h1 := hc.1
    injection h1 with h1
    exact lit_int_inj h1
  rw [this]
  exact hrun
/-- A stripe's parity counted. -/
theorem TS.step {w W : World} {gb mb : Nat} {l d c : Int} {s : Nat} (h : TS w W gb mb l d c s) (hs : s < 8) (hd : 3 ≤ d ∧ d ≤ 8) :
    (Instr.lookup 39 (.map (some mb)) (.int .i64 (d - 1 - (s : Int))) false).run Try.prog W = .ok (.int .i64 0) W ∧
    ∃ W', (Instr.mapUpdate 39 (.map (some mb)) (.int .i64 (d - 1 - (s : Int))) (.int .i64 1)).run Try.prog W = .ok () W' ∧ TS w W' gb mb l d c (s + 1) := by
  have h1 := h.mp.look0 (d - 1 - (s : Int)) (by omega)
  rw [tF_new] at h1
  obtain ⟨W', hrun, hm, hg⟩ := h.mp.store (by omega) (d - 1 - (s : Int)) 1 (by omega) (by omega)
  rw [tF_succ] at hm
  refine ⟨h1, W', hrun, h.gs.grown hg (Nat.le_trans (Nat.le_refl _) h.gs.2.2.2.size) (fun k e => ?_), hm, h.lo, h.ne⟩
  injection e with e
  subst e
  exact ⟨h.lo, h.ne⟩
end Go.Proofs.Ytclmgldlpjhepaa
