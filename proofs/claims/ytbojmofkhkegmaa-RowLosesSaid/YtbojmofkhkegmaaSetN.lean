/- A set of whole numbers that a call made, told anew or again; ranged over. -/
import Derived.Test.YtbojmofkhkegmaaSetInt
set_option linter.unusedVariables false
set_option linter.unusedSimpArgs false
namespace Go.Proofs.Ytbojmofkhkegmaa
open Go.RowKit

/-- Block B is a set that holds just these numbers; at most n times was one put. -/
def SetN (w : World) (B n : Nat) (xs : List Int) : Prop :=
  ∃ D : DataW Unit, w.ownsMap Try.prog 3 (plainElem Try.prog 4) B n D ∧ Maps.size D = xs.length ∧ ∀ x : Int, Maps.has D (.int .i64 x) = decide (x ∈ xs) ∧ D.atKey (.int .i64 x) (.lit (.bool false)) = .lit (.bool (decide (x ∈ xs)))
theorem setN_new (w : World) : SetN (w.alloc (.map #[] 0)) w.heap.size 0 [] := ⟨.map [], World.ownsMap_made _ _ _ _, rfl, fun _ => ⟨rfl, rfl⟩⟩
def addI (xs : List Int) (x : Int) : List Int := if x ∈ xs then xs else x :: xs
theorem addI_mem {xs : List Int} {x z : Int} : z ∈ addI xs x ↔ z = x ∨ z ∈ xs := by
  unfold addI
  split
  · constructor
    · exact .inr
    · rintro (rfl | h) <;> assumption
  · exact List.mem_cons
theorem addI_nodup {xs : List Int} {x : Int} (h : xs.Nodup) : (addI xs x).Nodup := by
  unfold addI
  split
  · exact h
  · exact List.nodup_cons.2 ⟨by assumption, h⟩
theorem addI_len (xs : List Int) (x : Int) : (addI xs x).length ≤ xs.length + 1 := by unfold addI; split <;> simp
section
variable {w w' : World} {B n : Nat} {xs : List Int}
theorem SetN.lt (h : SetN w B n xs) : B < w.heap.size := by obtain ⟨D, ho, _⟩ := h; exact ho.lt
theorem SetN.kept {row : Option Nat} (h : SetN w B n xs) (hg : w.grownBy w' row) (hne : some B ≠ row) : SetN w' B n xs := by obtain ⟨D, ho, hr⟩ := h; exact ⟨D, ho.kept hg hne, hr⟩
theorem SetN.below (h : SetN w B n xs) (hb : Below w.heap.size w w') : SetN w' B n xs := h.kept (grown_none hb) (by simp)
theorem SetN.look (h : SetN w B n xs) (x : Int) (hx : -9223372036854775808 ≤ x ∧ x ≤ 9223372036854775807) : (Instr.lookup 43 (.map (some B)) (.int .i64 x) false).run Try.prog w = .ok (.bool (decide (x ∈ xs))) w := by
  obtain ⟨D, ho, _, hr⟩ := h
  have hw : (Lit.int .i64 x).wf = true := WalkArith.wf_i64 hx
  obtain ⟨v, ps, hrun, hv⟩ := ho.lookup keyI Try.underlying43 (zeroBoolM w) (plainElem_bool Try.underlying4 false) (keyI_of x hw)
  rw [(hr x).2] at hv
  rw [hrun, plainElem_bool_inv hv]
theorem SetN.store (h : SetN w B n xs) (hn : n < 1000000) (x : Int) (hx : -9223372036854775808 ≤ x ∧ x ≤ 9223372036854775807) :
    ∃ w', (Instr.mapUpdate 43 (.map (some B)) (.int .i64 x) (.bool true)).run Try.prog w = .ok () w' ∧ SetN w' B (n + 1) (addI xs x) ∧ w.grownBy w' (some B) := by
  obtain ⟨D, ho, hs, hr⟩ := h
  obtain ⟨w', hrun, ho', hg⟩ := ho.update keyI Try.underlying43 (by unfold maxLen; omega) (keyI_of x (WalkArith.wf_i64 hx)) (plainElem_bool Try.underlying4 true)
  refine ⟨w', hrun, ⟨_, ho', ?_, fun z => ?_⟩, hg⟩
  · rw [Maps.size_put (ho.tidy keyI), (hr x).1]
    unfold addI
    by_cases h : x ∈ xs
    · rw [decide_eq_true h, if_pos h]; simp [hs]
    · rw [decide_eq_false h, if_neg h]; simp [hs]
  · by_cases e : z = x
    · subst e
      have hz : z ∈ addI xs z := addI_mem.2 (.inl rfl)
      rw [decide_eq_true hz]
      exact ⟨Maps.has_put_same ho.isMap (keyLitI z) _, Maps.atKey_put_same ho.isMap (keyLitI z) _ _⟩
    · have hne : Lit.int .i64 z ≠ Lit.int .i64 x := fun h => e (lit_int_inj h)
      have hd : decide (z ∈ addI xs x) = decide (z ∈ xs) := by simp [addI_mem, e]
      rw [hd]
      exact ⟨(Maps.has_put_other hne _).trans (hr z).1, (Maps.atKey_put_other hne _ _).trans (hr z).2⟩
theorem SetN.len (h : SetN w B n xs) (ty : TypeId) : (Builtin.len_ #[43] ty #[.map (some B)]).run Try.prog w = .ok (.int .i64 (xs.length : Int)) w := by
  obtain ⟨D, ho, hs, _⟩ := h
  rw [ho.len Try.underlying43 ty, hs]
end
theorem plainElem_bool_form {v : Value} {y : DataW Unit × List MemPlace} (h : plainElem (H := Unit) Try.prog 4 v = some y) : ∃ c : Bool, v = .bool c := by
  unfold plainElem at h
  rw [Try.underlying4] at h
  cases v <;> simp at h
  exact ⟨_, rfl⟩
end Go.Proofs.Ytbojmofkhkegmaa
