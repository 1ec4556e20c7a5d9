/- Arguments that are slices of yes and no, or of whole numbers. -/
import Derived.Test.YtoomdgidpplpfaaDoorLbag
import Derived.Test.YtoomdgidpplpfaaDoorLbab
import Derived.Deep.Grids
namespace Go.Proofs.YtoomdgidpplpfaaDoor
open Go.ChangeShapes Go.WideShapes Go.ChangeAt Go.RowKit Go.Deep

section
variable {H : Type} {enc : TypeId × Value → H} {P : Program}
theorem addr_of {W : World} {x : Addr} {u : Value} (h : W.cell? (x.add 0) = some u) : ∃ b off, x = ⟨b, off, none⟩ ∧ b < W.heap.size := by
  obtain ⟨b, off, spot⟩ := x
  have hspot : spot = none := by simpa [Addr.add] using World.cell?_spot h
  subst hspot
  have := World.block_lt_of_cell? _ _ h
  exact ⟨b, off, rfl, by simpa [Addr.add] using this⟩
theorem addr_add (b off k : Nat) : ((⟨b, off, none⟩ : Addr).add k) = ⟨b, off + k, none⟩ := by unfold Addr.add; by_cases hk0 : k = 0 <;> simp [hk0]
/-- A slice of bools that came in. -/
theorem open_rdo {t e : TypeId} (ht : P.underlying t = some (.slice e)) (he : P.underlying e = some .bool) (hc : P.cellsOf e = 1) {r : Reach} {W : World} {base : Nat} {v : Value} {d : DataW H} {p : List MemPlace}
    (hv : Value.okWide P W r base t v) (h : DataW.Trod enc P W 0 (fun _ => true) true t v d p) : ∃ A ks cap, v = .slice A ks.length cap ∧ ks.length ≤ cap ∧ RdO W W.heap.size A ks := by
  obtain ⟨A, len, cap, rfl⟩ := okWide_slice ht hv
  obtain ⟨fuel, hf⟩ := h
  rcases open_bools ht he hc hf with ⟨hcs, _⟩ | ⟨x, l, c, B, hcs, _, hl, hm, _, hcell⟩
  · simp [Value.cells] at hcs
    obtain ⟨rfl, rfl, rfl⟩ := hcs
    exact ⟨none, [], 0, rfl, Nat.le_refl _, RdO.nil _ _ _⟩
  · simp [Value.cells] at hcs
    obtain ⟨rfl, rfl, rfl⟩ := hcs
    have hL : ((List.range len).map B).length = len := by simp
    refine ⟨some x, (List.range len).map B, cap, by rw [hL], by rw [hL]; exact hl, by rw [hL]; unfold maxLen at hm; omega, fun hn => ?_⟩
    rw [hL] at hn
    obtain ⟨b, off, rfl, hb⟩ := addr_of (hcell 0 (by omega))
    refine ⟨b, off, rfl, hb, fun k hk => ?_⟩
    rw [hL] at hk
    have := hcell k (by omega)
    rw [addr_add] at this
    rw [this]
    simp [hk]
/-- A slice of whole numbers that came in. -/
theorem open_rdz {t e : TypeId} (ht : P.underlying t = some (.slice e)) (he : P.underlying e = some (.int .i64)) (hc : P.cellsOf e = 1) {r : Reach} {W : World} {base : Nat} {v : Value} {d : DataW H} {p : List MemPlace}
    (hv : Value.okWide P W r base t v) (h : DataW.Trod enc P W 0 (fun _ => true) true t v d p) : ∃ A zs cap, v = .slice A zs.length cap ∧ zs.length ≤ cap ∧ RdZ W W.heap.size A zs := by
  obtain ⟨A, len, cap, rfl⟩ := okWide_slice ht hv
  obtain ⟨fuel, hf⟩ := h
  rcases open_ints ht he hc hf with ⟨hcs, _⟩ | ⟨x, l, c, zs, hcs, _, hl, hm, hz, hd, hcell, hwz⟩
  · simp [Value.cells] at hcs
    obtain ⟨rfl, rfl, rfl⟩ := hcs
    exact ⟨none, [], 0, rfl, Nat.le_refl _, RdZ.nil _ _ _⟩
  · simp [Value.cells] at hcs
    obtain ⟨rfl, rfl, rfl⟩ := hcs
    simp only [if_true] at hz
    have hL : (zs.take len).length = len := by rw [List.length_take]; omega
    refine ⟨some x, zs.take len, cap, by rw [hL], by rw [hL]; exact hl, by rw [hL]; unfold maxLen at hm; omega, fun z hz => bounds_i64 (hwz z (List.mem_of_mem_take hz)), fun hn => ?_⟩
    rw [hL] at hn
    obtain ⟨b, off, rfl, hb⟩ := addr_of (hcell 0 (by omega))
    refine ⟨b, off, rfl, hb, fun k hk => ?_⟩
    rw [hL] at hk
    have := hcell k (by omega)
    rw [addr_add] at this
    rw [this]
    simp [hk]
end
end Go.Proofs.YtoomdgidpplpfaaDoor
