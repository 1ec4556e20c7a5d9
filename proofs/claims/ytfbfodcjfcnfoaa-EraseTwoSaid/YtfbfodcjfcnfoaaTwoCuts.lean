/- Two slices of the call's own, one beside the other. Of no program. -/
import Derived.Test.YtfbfodcjfcnfoaaOwnZ
namespace Go.Proofs.Ytfbfodcjfcnfoaa
open Go.RowKit

/-- One own slice; two. -/
def One (e : TypeId) (w0 W : World) (v : Value) (xs : List UInt8) : Prop := OwB e W w0.heap.size v xs ∧ w0.heap.size ≤ W.heap.size ∧ Below w0.heap.size w0 W
def Two (e : TypeId) (w0 W : World) (v : Value) (xs : List UInt8) (u : Value) (ys : List UInt8) : Prop :=
  OwB e W w0.heap.size v xs ∧ OwB e W w0.heap.size u ys ∧ (v.ownBlock = none ∨ v.ownBlock ≠ u.ownBlock) ∧ (u.ownBlock = none ∨ u.ownBlock ≠ v.ownBlock) ∧ w0.heap.size ≤ W.heap.size ∧ Below w0.heap.size w0 W
section
variable {e : TypeId} {w0 W W' : World} {v v' u : Value} {xs xs' ys : List UInt8}
theorem One.first {w1 : World} (hb : Below w0.heap.size w0 w1) (ho : OwB e W w1.heap.size v xs) (h : Below w1.heap.size w1 W) : One e w0 W v xs :=
  ⟨ho.le hb.size, (hb.trans (h.mono hb.size)).size, hb.trans (h.mono hb.size)⟩
theorem One.grow (h : One e w0 W v xs) (ho : OwB e W' w0.heap.size v' xs') (hg : W.grownBy W' v.ownBlock) : One e w0 W' v' xs' := by
  have hb := h.2.2.grown hg h.2.1 (fun j hj => (h.1.lt j hj).1)
  exact ⟨ho, hb.size, hb⟩
theorem One.drew (h : One e w0 W v xs) : One e w0 W.drew v xs := ⟨h.1, h.2.1, h.2.2.drew⟩
theorem One.two (h : One e w0 W v xs) (ho : OwB e W' W.heap.size u ys) (hb : Below W.heap.size W W') : Two e w0 W' v xs u ys := by
  have hb' := h.2.2.trans (hb.mono h.2.1)
  have hne : ∀ k, v.ownBlock = some k → u.ownBlock ≠ some k := fun k hk e => by
    have := (h.1.lt k hk).2
    have := (ho.lt k e).1
    omega
  refine ⟨h.1.below hb, ho.le h.2.1, ?_, ?_, hb'.size, hb'⟩
  · cases hv : v.ownBlock with
    | none => exact .inl rfl
    | some k => exact .inr fun e => hne k hv e.symm
  · cases hu : u.ownBlock with
    | none => exact .inl rfl
    | some k => exact .inr fun e => hne k e.symm hu
theorem Two.swap (h : Two e w0 W v xs u ys) : Two e w0 W u ys v xs := ⟨h.2.1, h.1, h.2.2.2.1, h.2.2.1, h.2.2.2.2⟩
theorem Two.growL (h : Two e w0 W v xs u ys) (ho : OwB e W' w0.heap.size v' xs') (hg : W.grownBy W' v.ownBlock) (hat : v'.ownBlock = v.ownBlock ∨ v'.ownBlock = some W.heap.size) : Two e w0 W' v' xs' u ys := by
  have hb := h.2.2.2.2.2.grown hg h.2.2.2.2.1 (fun j hj => (h.1.lt j hj).1)
  refine ⟨ho, h.2.1.grown hg h.2.2.2.1, ?_, ?_, hb.size, hb⟩
  · rcases hat with e1 | e1
    · rw [e1]; exact h.2.2.1
    · rw [e1]
      exact .inr fun e2 => by
        have := (h.2.1.lt _ e2.symm).2
        omega
  · rcases hat with e1 | e1
    · rw [e1]; exact h.2.2.2.1
    · rw [e1]
      cases hu : u.ownBlock with
      | none => exact .inl rfl
      | some k =>
        refine .inr fun e2 => ?_
        have := (h.2.1.lt _ hu).2
        injection e2 with e2
        omega
theorem Two.growR {u' : Value} {ys' : List UInt8} (h : Two e w0 W v xs u ys) (ho : OwB e W' w0.heap.size u' ys') (hg : W.grownBy W' u.ownBlock) (hat : u'.ownBlock = u.ownBlock ∨ u'.ownBlock = some W.heap.size) : Two e w0 W' v xs u' ys' := (h.swap.growL ho hg hat).swap
/-- A slice made longer by nine zeros, with its room. -/
theorem OwB.nine {B : Nat} (h : OwB e W B v (xs ++ List.replicate 9 0)) : ∃ g k, v = .slice (some ⟨g, 0, none⟩) (xs.length + 9) k ∧ 9 ≤ k := by
  obtain ⟨g, k, hv, _, _, hk, _⟩ := h.pos (by simp)
  have hl : (xs ++ List.replicate 9 (0 : UInt8)).length = xs.length + 9 := by simp
  rw [hl] at hv hk
  exact ⟨g, k, hv, by omega⟩
theorem OwB.nineS {B g n k : Nat} (h : OwB e W B (.slice (some ⟨g, 0, none⟩) n k) (xs ++ List.replicate 9 0)) {N : Nat} (hN : N ≤ 9) : OwB e W B (.slice (some ⟨g, 0, none⟩) N k) ((xs ++ List.replicate 9 0).take N) ∧ ((xs ++ List.replicate 9 (0 : UInt8)).take N).length = N := by
  have hl : (xs ++ List.replicate 9 (0 : UInt8)).length = xs.length + 9 := by simp
  have hn := h.rdS.2.1
  exact ⟨h.takeS hn.symm N (by omega), by rw [List.length_take, hl]; omega⟩
end
end Go.Proofs.Ytfbfodcjfcnfoaa
