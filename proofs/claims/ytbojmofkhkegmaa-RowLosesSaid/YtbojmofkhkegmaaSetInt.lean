/- A set of whole numbers, that a call made: a map of truths. -/
import Derived.Test.YtbojmofkhkegmaaMapKey
namespace Go.Proofs.Ytbojmofkhkegmaa
open Go.RowKit

theorem zeroBoolM (w : World) : (zeroValue 4).run Try.prog w = .ok (.bool false) w := by kernel_rfl
theorem plainElem_bool_inv {v : Value} {b : Bool} {ps : List MemPlace} (h : plainElem (H := Unit) Try.prog 4 v = some (.lit (.bool b), ps)) : v = .bool b := by
  unfold plainElem at h
  rw [Try.underlying4] at h
  cases v <;> simp at h
  simp [h]
/-- Block B is a set that holds just these numbers. -/
def SetI (w : World) (B : Nat) (xs : List Int) : Prop :=
  ∃ D : DataW Unit, w.ownsMap Try.prog 3 (plainElem Try.prog 4) B xs.length D ∧ Maps.size D = xs.length ∧ ∀ x : Int, Maps.has D (.int .i64 x) = decide (x ∈ xs) ∧ D.atKey (.int .i64 x) (.lit (.bool false)) = .lit (.bool (decide (x ∈ xs)))
theorem setI_new (w : World) : SetI (w.alloc (.map #[] 0)) w.heap.size [] := ⟨.map [], World.ownsMap_made _ _ _ _, rfl, fun _ => ⟨rfl, rfl⟩⟩
section
variable {w w' : World} {B : Nat} {xs : List Int}
theorem SetI.lt (h : SetI w B xs) : B < w.heap.size := by obtain ⟨D, ho, _⟩ := h; exact ho.lt
theorem SetI.kept {row : Option Nat} (h : SetI w B xs) (hg : w.grownBy w' row) (hne : some B ≠ row) : SetI w' B xs := by obtain ⟨D, ho, hr⟩ := h; exact ⟨D, ho.kept hg hne, hr⟩
theorem SetI.below (h : SetI w B xs) (hb : Below w.heap.size w w') : SetI w' B xs := h.kept (grown_none hb) (by simp)
theorem SetI.look (h : SetI w B xs) (x : Int) (hx : -9223372036854775808 ≤ x ∧ x ≤ 9223372036854775807) : (Instr.lookup 43 (.map (some B)) (.int .i64 x) false).run Try.prog w = .ok (.bool (decide (x ∈ xs))) w := by
  obtain ⟨D, ho, _, hr⟩ := h
  have hw : (Lit.int .i64 x).wf = true := WalkArith.wf_i64 hx
  obtain ⟨v, ps, hrun, hv⟩ := ho.lookup keyI Try.underlying43 (zeroBoolM w) (plainElem_bool Try.underlying4 false) (keyI_of x hw)
  rw [(hr x).2] at hv
  rw [hrun, plainElem_bool_inv hv]
theorem SetI.store (h : SetI w B xs) (hn : xs.length < 1000000) (x : Int) (hx : -9223372036854775808 ≤ x ∧ x ≤ 9223372036854775807) (hnew : x ∉ xs) :
    ∃ w', (Instr.mapUpdate 43 (.map (some B)) (.int .i64 x) (.bool true)).run Try.prog w = .ok () w' ∧ SetI w' B (x :: xs) ∧ w.grownBy w' (some B) := by
  obtain ⟨D, ho, hs, hr⟩ := h
  obtain ⟨w', hrun, ho', hg⟩ := ho.update keyI Try.underlying43 (by unfold maxLen; omega) (keyI_of x (WalkArith.wf_i64 hx)) (plainElem_bool Try.underlying4 true)
  refine ⟨w', hrun, ⟨_, ho', ?_, fun z => ?_⟩, hg⟩
  · rw [Maps.size_put (ho.tidy keyI), (hr x).1, decide_eq_false hnew]; simp [hs]
  · by_cases e : z = x
    · subst e
      have hz : z ∈ z :: xs := List.mem_cons_self
      rw [decide_eq_true hz]
      exact ⟨Maps.has_put_same ho.isMap (keyLitI z) _, Maps.atKey_put_same ho.isMap (keyLitI z) _ _⟩
    · have hne : Lit.int .i64 z ≠ Lit.int .i64 x := fun h => e (lit_int_inj h)
      have hd : decide (z ∈ x :: xs) = decide (z ∈ xs) := by simp [e]
      rw [hd]
      exact ⟨(Maps.has_put_other hne _).trans (hr z).1, (Maps.atKey_put_other hne _ _).trans (hr z).2⟩
theorem SetI.len (h : SetI w B xs) (ty : TypeId) : (Builtin.len_ #[43] ty #[.map (some B)]).run Try.prog w = .ok (.int .i64 (xs.length : Int)) w := by
  obtain ⟨D, ho, hs, _⟩ := h
  rw [ho.len Try.underlying43 ty, hs]
end
end Go.Proofs.Ytbojmofkhkegmaa
