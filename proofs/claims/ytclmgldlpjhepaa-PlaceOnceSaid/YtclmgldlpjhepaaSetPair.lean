/- A set of pairs of whole numbers, that a call made: a map of truths by arrays of two. -/
import Derived.Test.YtclmgldlpjhepaaSetInt
import Derived.WideKeyArr
import Derived.WideKeyArr2
namespace Go.Proofs.Ytclmgldlpjhepaa
open Go.RowKit

theorem arrP : WideMaps.ArrKey Try.prog 43 3 2 := ⟨Try.underlying43, by kernel_rfl, by kernel_rfl, by kernel_rfl⟩
theorem size1 : 1 < Try.prog.types.size := of_decide_eq_true (by kernel_rfl)
theorem sizeP : ∃ m, Try.prog.types.size = m + 1 := ⟨Try.prog.types.size - 1, by have := size1; omega⟩
theorem keyP : Maps.Keyed Try.prog 43 := Maps.Keyed.of_law arrP.law
theorem keyP_of (x y : Int) (hx : -9223372036854775808 ≤ x ∧ x ≤ 9223372036854775807) (hy : -9223372036854775808 ≤ y ∧ y ≤ 9223372036854775807) : ∃ kl, keyOf Try.prog 43 (.agg #[.int .i64 x, .int .i64 y]) = some kl := by
  have hwx : (Lit.int .i64 x).wf = true := WalkArith.wf_i64 hx
  have hwy : (Lit.int .i64 y).wf = true := WalkArith.wf_i64 hy
  have hkt := arrP.keyType sizeP
  obtain ⟨m0, hm0⟩ := sizeP
  obtain ⟨m1, hm1⟩ : ∃ m1, m0 = m1 + 1 := ⟨m0 - 1, by have := size1; omega⟩
  unfold keyOf
  simp only [arrP.hu]
  rw [if_pos (by simp [hkt, Value.formed, arrP.hu, arrP.size]), hm0, hm1]
  unfold Program.keyLits
  simp only [arrP.hu, Value.cells]
  rw [if_pos (by rw [arrP.size]; rfl), arrP.one]
  simp [Program.keyLits, Try.underlying3, hwx, hwy, List.range, List.range.loop, List.mapM_cons]
/-- Block B is a set that holds just these pairs. -/
def SetP (w : World) (B : Nat) (xs : List (Int × Int)) : Prop :=
  ∃ D : DataW Unit, w.ownsMap Try.prog 43 (plainElem Try.prog 4) B xs.length D ∧ ∀ (x y : Int) (kl : Lit), keyOf Try.prog 43 (.agg #[.int .i64 x, .int .i64 y]) = some kl → D.atKey kl (.lit (.bool false)) = .lit (.bool (decide ((x, y) ∈ xs)))
theorem setP_new (w : World) : SetP (w.alloc (.map #[] 0)) w.heap.size [] := ⟨.map [], World.ownsMap_made _ _ _ _, fun _ _ _ _ => rfl⟩
theorem pair_inj {x y x' y' : Int} (h : Value.agg #[.int .i64 x, .int .i64 y] = .agg #[.int .i64 x', .int .i64 y']) : x = x' ∧ y = y' := by
  simp at h
  exact h
section
variable {w w' : World} {B : Nat} {xs : List (Int × Int)}
theorem SetP.lt (h : SetP w B xs) : B < w.heap.size := by obtain ⟨D, ho, _⟩ := h; exact ho.lt
theorem SetP.kept {row : Option Nat} (h : SetP w B xs) (hg : w.grownBy w' row) (hne : some B ≠ row) : SetP w' B xs := by obtain ⟨D, ho, hr⟩ := h; exact ⟨D, ho.kept hg hne, hr⟩
theorem SetP.below (h : SetP w B xs) (hb : Below w.heap.size w w') : SetP w' B xs := h.kept (grown_none hb) (by simp)
theorem SetP.look (h : SetP w B xs) (x y : Int) (hx : -9223372036854775808 ≤ x ∧ x ≤ 9223372036854775807) (hy : -9223372036854775808 ≤ y ∧ y ≤ 9223372036854775807) :
    (Instr.lookup 42 (.map (some B)) (.agg #[.int .i64 x, .int .i64 y]) false).run Try.prog w = .ok (.bool (decide ((x, y) ∈ xs))) w := by
  obtain ⟨D, ho, hr⟩ := h
  obtain ⟨kl, hk⟩ := keyP_of x y hx hy
  obtain ⟨v, ps, hrun, hv⟩ := ho.lookup keyP Try.underlying42 (zeroBoolM w) (plainElem_bool Try.underlying4 false) hk
  rw [hr x y kl hk] at hv
  rw [hrun, plainElem_bool_inv hv]
theorem SetP.store (h : SetP w B xs) (hn : xs.length < 1000000) (x y : Int) (hx : -9223372036854775808 ≤ x ∧ x ≤ 9223372036854775807) (hy : -9223372036854775808 ≤ y ∧ y ≤ 9223372036854775807) :
    ∃ w', (Instr.mapUpdate 42 (.map (some B)) (.agg #[.int .i64 x, .int .i64 y]) (.bool true)).run Try.prog w = .ok () w' ∧ SetP w' B ((x, y) :: xs) ∧ w.grownBy w' (some B) := by
  obtain ⟨D, ho, hr⟩ := h
  obtain ⟨kl, hk⟩ := keyP_of x y hx hy
  obtain ⟨w', hrun, ho', hg⟩ := ho.update keyP Try.underlying42 (by unfold maxLen; omega) hk (plainElem_bool Try.underlying4 true)
  refine ⟨w', hrun, ⟨_, ho', fun z u kz hz => ?_⟩, hg⟩
  by_cases e : z = x ∧ u = y
  · obtain ⟨rfl, rfl⟩ := e
    obtain rfl : kz = kl := by rw [hk] at hz; injection hz with hz; exact hz.symm
    rw [decide_eq_true List.mem_cons_self]
    exact Maps.atKey_put_same ho.isMap (keyP.key hk) _ _
  · have hne : kz ≠ kl := fun e1 => by subst e1; exact e (pair_inj (keyP.inj hz hk))
    have hd : decide ((z, u) ∈ (x, y) :: xs) = decide ((z, u) ∈ xs) := by
      have : ¬ ((z, u) = (x, y)) := fun h => by injection h with h1 h2; exact e ⟨h1, h2⟩
      simp [this]
    rw [hd]
    exact (Maps.atKey_put_other hne _ _).trans (hr z u kz hz)
end
end Go.Proofs.Ytclmgldlpjhepaa
