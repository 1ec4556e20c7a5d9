/- DiskPlays: what its pieces stand on. -/
import Derived.Test.YtcgajfjlkojnlaaPlays
import Derived.Test.YtcgajfjlkojnlaaWithin
import Derived.Test.YtcgajfjlkojnlaaPlaySec
import Derived.Test.YtcgajfjlkojnlaaDskWakes
import Derived.Deep.LoopGhost
import Derived.Deep.DeepCutAuto
import Derived.Deep.CutBlock
namespace Go.Proofs.Ytcgajfjlkojnlaa
open Go.RowKit

/-- A part of a piece of code. -/
def sub : List Nat → Code → Code
  | [], c => c
  | 0 :: p, .seq a _ => sub p a
  | _ :: p, .seq _ b => sub p b
  | _ :: p, .block _ c => sub p c
  | _ :: p, .loop c => sub p c
  | _ :: p, .scope c => sub p c
  | 0 :: p, .cond _ a _ => sub p a
  | _ :: p, .cond _ _ b => sub p b
  | _, c => c
noncomputable def code6 : Code := Try.f6.body.getD .skip
theorem MdlAt.mono {w : World} {B B' mb mm n : Nat} {av xv : Value} {D : Dsk} {F : Int → Option (List UInt8)} (h : MdlAt w B mb mm n av xv D F) (hB : B' ≤ B) : MdlAt w B' mb mm n av xv D F :=
  have own : ∀ {e : TypeId} {v : Value} {m : Nat} {xs : List Value}, w.ownsRow B e 1 v m xs → w.ownsRow B' e 1 v m xs := fun h => ⟨h.1, h.2.elim .inl fun ⟨g, cap, cur, h1, h2, r⟩ => .inr ⟨g, cap, cur, h1, by omega, r⟩⟩
  ⟨h.blk, h.map, own h.ats, own h.xs, ⟨by have := h.le.1; omega, by have := h.le.2; omega⟩, h.n1, h.n2, h.n3, h.n4, h.n5, h.n6, h.sec, h.len, h.ok⟩
/-- The round's state. -/
structure RS (W w : World) (b mb r : Nat) (D : Dsk) : Prop where
  p : PX W w b mb (2 * r) D D 0 []
  f : D.f = true → D = Dsk.failed
section
variable {W w w' : World} {b mb r g : Nat} {D : Dsk} {y : List UInt8} {k : Int}
theorem RS.of (h : PX W w b mb (2 * r + 2) D D g y) (hf : D.f = true → D = Dsk.failed) : RS W w b mb (r + 1) D := ⟨h.drop.mono (by omega), hf⟩
theorem RS.below (h : RS W w b mb r D) (hb : Below w.heap.size w w') : RS W w' b mb r D := ⟨h.p.below hb, h.f⟩
theorem reach_nat (h : reachE D.f k = 0) : ∃ n : Nat, k = (n : Int) ∧ n < 52 := by
  obtain ⟨_, h0, h1⟩ := reachE_zero h
  exact ⟨k.toNat, by omega, by omega⟩
theorem take_ok (h : reachE D.f k = 0) (hl : y.length = 32) : takeE D.f k y.length = 0 ∧ D.writeE k y = D.write k.toNat y ∧ D.damageE k y = D.damage k.toNat y := by
  have ht : takeE D.f k y.length = 0 := by unfold takeE; simp [h, hl]
  unfold Dsk.writeE Dsk.damageE
  exact ⟨ht, by rw [if_pos ht], by rw [if_pos ht]⟩
theorem take_arg (h : reachE D.f k = 0) (hl : y.length ≠ 32) : takeE D.f k y.length = 1 ∧ D.writeE k y = D ∧ D.damageE k y = D := by
  have ht : takeE D.f k y.length = 1 := by unfold takeE; simp [h, hl]
  unfold Dsk.writeE Dsk.damageE
  exact ⟨ht, by rw [ht]; rfl, by rw [ht]; rfl⟩
theorem take_no (h : reachE D.f k ≠ 0) : takeE D.f k y.length = reachE D.f k ∧ D.writeE k y = D ∧ D.damageE k y = D := by
  have ht : takeE D.f k y.length = reachE D.f k := by unfold takeE; rw [if_pos h]
  unfold Dsk.writeE Dsk.damageE
  exact ⟨ht, by rw [ht, if_neg h], by rw [ht, if_neg h]⟩
theorem flush_failed (h : D.f = true) (hf : D.f = true → D = Dsk.failed) : D.flushE = D ∧ D.flush = D := by
  refine ⟨by unfold Dsk.flushE; rw [if_pos h], ?_⟩
  rw [hf h]; rfl
theorem crash_f (hf : D.f = true → D = Dsk.failed) (ks : List Bool) : (D.crash ks).f = true → D.crash ks = Dsk.failed := fun h => by
  rw [hf h]; rfl
end
end Go.Proofs.Ytcgajfjlkojnlaa
