/- Texts put together: RbdCut, ScrWant, RbdTwo. -/
import Derived.Test.YtadmofpipfdedaaSfbf
import Derived.Test.YtadmofpipfdedaaSfau
import Derived.Test.YtadmofpipfdedaaSfar
section
set_option maxRecDepth 20000
set_option linter.unusedVariables false
set_option linter.unusedSimpArgs false
namespace Go.Proofs.Ytadmofpipfdedaa
open Go.RowKit

section
variable {W w : World} {b : Nat} {H : BH} {N : Bch} {K : List (Nat × Obj)} {R : List (Option Addr × List (List UInt8))} {S : List (Option Addr × List UInt8)}
end
section
variable {N M : Bch} {m k : Nat} {G : RG} {zs : List Int} {lv : List Bool}
end
end Go.Proofs.Ytadmofpipfdedaa
end
section
set_option maxRecDepth 20000
set_option linter.unusedVariables false
set_option linter.unusedSimpArgs false
namespace Go.Proofs.Ytadmofpipfdedaa
open Go.RowKit

structure WI (w : World) (b : Nat) (H : BH) (n : Nat) (K : List (Nat × Obj)) (W : World) (v : Value) (ks : List Nat) : Prop where
  ow : OwI w W.heap.size v ks
  ne : ∀ g, v.ownBlock = some g → ¬ BF b H n g ∧ ∀ q ∈ K, q.1 ≠ g
theorem WI.nil (w : World) (b : Nat) (H : BH) (n : Nat) (K : List (Nat × Obj)) (W : World) : WI w b H n K W (.slice none 0 0) [] := ⟨owi_nil _ _, fun g e => by cases e⟩
section
variable {W w w' : World} {b : Nat} {H : BH} {N : Bch} {K : List (Nat × Obj)} {R : List (Option Addr × List (List UInt8))} {S : List (Option Addr × List UInt8)} {v : Value} {ks : List Nat} {n : Nat}
theorem WI.below (h : WI w b H n K W v ks) (hb : Below w.heap.size w w') : WI w' b H n K W v ks := ⟨h.ow.below hb, h.ne⟩
theorem KS.bcH (h : KS W w b H N K R S) {H' : BH} {N' : Bch} (a : BP W w' b H' N') (c : Chg (BF b H N.n) w w') (m : BNew w b H H' N.n) (hn : N'.n = N.n) : KS W w' b H' N' K R S := by
  have hx : KX W w' b H' N' K := by
    refine ⟨a, fun p hp => ?_⟩
    obtain ⟨h1, h2, h3⟩ := h.kx.kp p hp
    have hl := (Array.getElem?_eq_some_iff.1 h1).1
    exact ⟨(c.block _ hl h2).trans h1, by rw [hn]; exact BC.off m hl h2, h3⟩
  exact ⟨hx, fun p hp => by rw [hn]; exact (h.rx p hp).chg c (bnew_weak m), fun p hp => by rw [hn]; exact (h.sx p hp).chg c (bnew_weak m)⟩
theorem WI.push (h : WI w b H N.n K W v ks) (k : KS W w b H N K [] []) {o : Obj} {w9 : World} {v9 : Value} {j : Nat} (ho : w9.ownsRow W.heap.size 3 1 v9 (ks.length + 1) (ks.map iv ++ [.int .i64 (j : Int)])) (hg : (w.alloc o).grownBy w9 v.ownBlock) (hat : v9.ownBlock = v.ownBlock ∨ v9.ownBlock = some (w.alloc o).heap.size) :
    KS W w9 b H N K [] [] ∧ WI w9 b H N.n K W v9 (ks ++ [j]) := by
  refine ⟨(k.below (below1 w o)).far hg fun p e => ⟨(h.ow.lt p e).1, (h.ne p e).1, (h.ne p e).2⟩, ?_, fun g e => ?_⟩
  · unfold OwI
    rw [List.length_append, List.map_append]
    exact ho
  · rcases hat with e2 | e2
    · exact h.ne g (e2.symm.trans e)
    · rw [e2] at e
      injection e with e
      have hz : w.heap.size < g := by rw [← e]; simp
      refine ⟨fun q => by have := k.flt g q; omega, fun q hq e3 => ?_⟩
      have := (Array.getElem?_eq_some_iff.1 (k.kx.kp q hq).1).1
      omega
end
/-- A byte of a sector turned. -/
def tb (q : UInt8) (r : Nat) (x : List UInt8) : List UInt8 := x.set r (x.getD r 0 ^^^ q)
theorem tb_get {q : UInt8} {r : Nat} {x : List UInt8} (hr : r < x.length) : (tb q r x).getD r 0 = x.getD r 0 ^^^ q := by
  simp [tb, List.getD_eq_getElem?_getD, hr]
theorem tb_ne {q : UInt8} {r : Nat} {x : List UInt8} (hq : q ≠ 0) (hr : r < x.length) : tb q r x ≠ x := fun e => hq (by
  have h := tb_get (q := q) hr
  rw [e] at h
  have h2 : x.getD r 0 ^^^ x.getD r 0 = x.getD r 0 ^^^ (x.getD r 0 ^^^ q) := by rw [← h]
  rw [UInt8.xor_self, ← UInt8.xor_assoc, UInt8.xor_self, UInt8.zero_xor] at h2
  exact h2.symm)
end Go.Proofs.Ytadmofpipfdedaa
end
section
set_option linter.unusedVariables false
set_option linter.unusedSimpArgs false
namespace Go.Proofs.Ytadmofpipfdedaa
open Go.RowKit

theorem lvset_same {lv : List Bool} {z : Nat} (v : Bool) (h : z < lv.length) : (lv.set z v).getD z false = v := by
  rw [List.getD_eq_getElem?_getD, List.getElem?_set_self h]; rfl
theorem lvset_other {lv : List Bool} {z i : Nat} (v : Bool) (h : i ≠ z) : (lv.set z v).getD i false = lv.getD i false := by
  rw [List.getD_eq_getElem?_getD, List.getElem?_set_ne (by omega), ← List.getD_eq_getElem?_getD]
/-- The first ones of two are as they were. -/
structure T2 (N M : Bch) (lv : List Bool) (D : Nat) (zs : Nat → Nat) (j : Nat) : Prop where
  n : M.n = D
  dn : M.down = false
  lf : M.left = -1
  done : M.done ≤ 16 * j
  o : ∀ i, i < D → (∀ t, j ≤ t → t < 2 → i ≠ zs t) → (∀ a, a < 52 → secAt (M.D i).now a = secAt (N.D i).now a) ∧ lv.getD i false = true ∧ (M.D i).f = false ∧ (M.D i).ps = []
  g : ∀ t, j ≤ t → t < 2 → M.D (zs t) = Dsk.new ∧ lv.getD (zs t) false = false
  len : lv.length = D
section
variable {N M : Bch} {lv : List Bool} {D m : Nat} {zs : Nat → Nat} {j : Nat} {c : Int} {zl : List Int}
def G6 (D : Nat) (c : Int) : RG := ⟨6, (D : Int), c, 0, 0, 0, 0⟩
end
end Go.Proofs.Ytadmofpipfdedaa
end
