/- A region that draws its order: any of three or four operations may come up. Of no program. -/
import Derived.Test.YtoomdgidpplpfaaDoorLbae
namespace Go.Proofs.YtoomdgidpplpfaaDoor
open Go.RowKit

section
variable {P : Program} {ops : Array Oper} {Q : Exit → Act → World → Prop} {S : World → Prop} {n : Nat} {ex : List Nat}
theorem anyI_all (rs : List Nat) {f : Nat} {listed : Array Bool} {a : Act} {w : World} (hrs : Region.ready .any ops listed = rs) (h0 : rs ≠ [])
    (h : ∀ t ∈ rs, ∃ ot, ops[t]? = some ot ∧ opE P ops Q ot (fun a' w' => S w' ∧ anyI P ops Q S n ex f (listed.setIfInBounds t true) a' w') a w) : anyI P ops Q S n ex (f + 1) listed a w := fun inv => by
  refine ⟨fun h => (by rw [hrs] at h; exact absurd h h0), fun t ht => ?_⟩
  have ht' := ht
  rw [hrs] at ht
  obtain ⟨ot, h1, h2⟩ := h t ht
  exact wpOp_mono (fun a' w' h => ⟨fun _ => h.1, h.2 (inv.set ht')⟩) (wpOp_of_opE h1 h2)
theorem anyI_three (i j k : Nat) {oi oj ok : Oper} {f : Nat} {listed : Array Bool} {a : Act} {w : World} (hrs : Region.ready .any ops listed = [i, j, k]) (hi : ops[i]? = some oi) (hj : ops[j]? = some oj) (hk : ops[k]? = some ok)
    (h1 : opE P ops Q oi (fun a' w' => S w' ∧ anyI P ops Q S n ex f (listed.setIfInBounds i true) a' w') a w) (h2 : opE P ops Q oj (fun a' w' => S w' ∧ anyI P ops Q S n ex f (listed.setIfInBounds j true) a' w') a w) (h3 : opE P ops Q ok (fun a' w' => S w' ∧ anyI P ops Q S n ex f (listed.setIfInBounds k true) a' w') a w) : anyI P ops Q S n ex (f + 1) listed a w :=
  anyI_all [i, j, k] hrs (by simp) fun t ht => by
    simp only [List.mem_cons, List.not_mem_nil, or_false] at ht
    rcases ht with rfl | rfl | rfl
    · exact ⟨_, hi, h1⟩
    · exact ⟨_, hj, h2⟩
    · exact ⟨_, hk, h3⟩
theorem anyI_four (i j k m : Nat) {oi oj ok om : Oper} {f : Nat} {listed : Array Bool} {a : Act} {w : World} (hrs : Region.ready .any ops listed = [i, j, k, m]) (hi : ops[i]? = some oi) (hj : ops[j]? = some oj) (hk : ops[k]? = some ok) (hm : ops[m]? = some om)
    (h1 : opE P ops Q oi (fun a' w' => S w' ∧ anyI P ops Q S n ex f (listed.setIfInBounds i true) a' w') a w) (h2 : opE P ops Q oj (fun a' w' => S w' ∧ anyI P ops Q S n ex f (listed.setIfInBounds j true) a' w') a w) (h3 : opE P ops Q ok (fun a' w' => S w' ∧ anyI P ops Q S n ex f (listed.setIfInBounds k true) a' w') a w) (h4 : opE P ops Q om (fun a' w' => S w' ∧ anyI P ops Q S n ex f (listed.setIfInBounds m true) a' w') a w) : anyI P ops Q S n ex (f + 1) listed a w :=
  anyI_all [i, j, k, m] hrs (by simp) fun t ht => by
    simp only [List.mem_cons, List.not_mem_nil, or_false] at ht
    rcases ht with rfl | rfl | rfl | rfl
    · exact ⟨_, hi, h1⟩
    · exact ⟨_, hj, h2⟩
    · exact ⟨_, hk, h3⟩
    · exact ⟨_, hm, h4⟩
end
end Go.Proofs.YtoomdgidpplpfaaDoor
