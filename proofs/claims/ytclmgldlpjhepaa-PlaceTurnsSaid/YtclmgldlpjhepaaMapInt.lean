/- A map of whole numbers by whole numbers, that a call made. -/
import Derived.Test.YtclmgldlpjhepaaMapKey
namespace Go.Proofs.Ytclmgldlpjhepaa
open Go.RowKit

/-- Block B is a map of at most n entries that reads as F. -/
def MapI (w : World) (B n : Nat) (F : Int → Option Int) : Prop :=
  ∃ D : DataW Unit, w.ownsMap Try.prog 3 (plainElem Try.prog 3) B n D ∧ ∀ x : Int, Maps.has D (.int .i64 x) = (F x).isSome ∧ D.atKey (.int .i64 x) (.lit (.int .i64 0)) = .lit (.int .i64 ((F x).getD 0))
theorem mapI_new (w : World) : MapI (w.alloc (.map #[] 0)) w.heap.size 0 (fun _ => none) := ⟨.map [], World.ownsMap_made _ _ _ _, fun _ => ⟨rfl, rfl⟩⟩
section
variable {w w' : World} {B n : Nat} {F : Int → Option Int}
theorem MapI.lt (h : MapI w B n F) : B < w.heap.size := by obtain ⟨D, ho, _⟩ := h; exact ho.lt
theorem MapI.kept {row : Option Nat} (h : MapI w B n F) (hg : w.grownBy w' row) (hne : some B ≠ row) : MapI w' B n F := by obtain ⟨D, ho, hr⟩ := h; exact ⟨D, ho.kept hg hne, hr⟩
theorem MapI.below (h : MapI w B n F) (hb : Below w.heap.size w w') : MapI w' B n F := h.kept (grown_none hb) (by simp)
theorem MapI.chg {G : Nat → Prop} (h : MapI w B n F) (hc : Chg G w w') (hn : ¬ G B) : MapI w' B n F := by
  obtain ⟨D, ho, hr⟩ := h
  obtain ⟨es, clock, hb, r⟩ := ho
  exact ⟨D, ⟨es, clock, (hc.block B (Array.getElem?_eq_some_iff.1 hb).1 hn).trans hb, r⟩, hr⟩
theorem MapI.look (h : MapI w B n F) (x : Int) (hx : -9223372036854775808 ≤ x ∧ x ≤ 9223372036854775807) : (Instr.lookup 39 (.map (some B)) (.int .i64 x) true).run Try.prog w = .ok (.tuple #[.int .i64 ((F x).getD 0), .bool (F x).isSome]) w := by
  obtain ⟨D, ho, hr⟩ := h
  have hw : (Lit.int .i64 x).wf = true := WalkArith.wf_i64 hx
  obtain ⟨v, ps, hrun, hv⟩ := ho.look_ok keyI Try.underlying39 (zeroInt w) (plainElem_int Try.underlying3 (by decide)) (keyI_of x hw)
  rw [(hr x).1] at hrun
  rw [(hr x).2] at hv
  obtain ⟨c, rfl, hc, _⟩ := plainElem_int_inv Try.underlying3 hv
  simp only [Prod.mk.injEq] at hc
  have : (F x).getD 0 = c := by
    have h1 := hc.1
    injection h1 with h1
    exact lit_int_inj h1
  rw [this]
  exact hrun
theorem MapI.store (h : MapI w B n F) (hn : n < 1000000) (x y : Int) (hx : -9223372036854775808 ≤ x ∧ x ≤ 9223372036854775807) (hy : -9223372036854775808 ≤ y ∧ y ≤ 9223372036854775807) :
    ∃ w', (Instr.mapUpdate 39 (.map (some B)) (.int .i64 x) (.int .i64 y)).run Try.prog w = .ok () w' ∧ MapI w' B (n + 1) (putF F x y) ∧ w.grownBy w' (some B) := by
  obtain ⟨D, ho, hr⟩ := h
  obtain ⟨w', hrun, ho', hg⟩ := ho.update keyI Try.underlying39 (by unfold maxLen; omega) (keyI_of x (WalkArith.wf_i64 hx)) (plainElem_int Try.underlying3 (WalkArith.wf_i64 hy))
  refine ⟨w', hrun, ⟨_, ho', fun z => ?_⟩, hg⟩
  unfold putF
  by_cases e : z = x
  · subst e
    rw [if_pos rfl]
    exact ⟨Maps.has_put_same ho.isMap (keyLitI z) _, Maps.atKey_put_same ho.isMap (keyLitI z) _ _⟩
  · rw [if_neg e]
    have hne : Lit.int .i64 z ≠ Lit.int .i64 x := fun h => e (lit_int_inj h)
    exact ⟨(Maps.has_put_other hne _).trans (hr z).1, (Maps.atKey_put_other hne _ _).trans (hr z).2⟩
end
end Go.Proofs.Ytclmgldlpjhepaa
