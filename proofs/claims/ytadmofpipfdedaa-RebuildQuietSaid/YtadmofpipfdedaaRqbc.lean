/- Texts put together: StpLawKit, StpOneMath, KsFar. -/
import Derived.Test.YtadmofpipfdedaaRqbb
import Derived.Test.YtadmofpipfdedaaRqay
import Derived.Test.YtadmofpipfdedaaRqba
import Derived.Test.YtadmofpipfdedaaRqak
import Derived.Test.YtadmofpipfdedaaRqav
section
set_option maxRecDepth 20000
set_option linter.unusedVariables false
set_option linter.unusedSimpArgs false
namespace Go.Proofs.Ytadmofpipfdedaa
open Go.RowKit

section
variable {W w w' : World} {b : Nat} {H : BH} {N : Bch} {K : List (Nat × Obj)} {R : List (Option Addr × List (List UInt8))} {S : List (Option Addr × List UInt8)}
/-- A block that was made since. -/
theorem KS.block (h : KS W w b H N K R S) (hb : Below w.heap.size w w') {g : Nat} {o : Obj} (hg : w'.heap[g]? = some o) (hw : w.heap.size ≤ g) : KS W w' b H N ((g, o) :: K) R S := by
  have h' := h.below hb
  refine ⟨⟨h'.bp, fun p hp => ?_⟩, h'.rx, h'.sx⟩
  rcases List.mem_cons.1 hp with rfl | hp
  · exact ⟨hg, fun e => by have := h.flt _ e; omega, by have := h.bp.bel.size; omega⟩
  · exact h'.kx.kp p hp
end
section
variable {W w : World} {b : Nat} {H : BH} {N : Bch} {K : List (Nat × Obj)} {R : List (Option Addr × List (List UInt8))} {S : List (Option Addr × List UInt8)} (h : KS W w b H N K R S)
include h
end
theorem live0 {d i : Nat} (hi : i < d) : (liveL 0 d).getD i false = true := by
  rw [liveL_get 0 hi]
  unfold liveB
  rw [if_neg, if_neg]
  · rintro ⟨h, _⟩; revert h; decide
  · rintro ⟨h, _⟩; revert h; decide
end Go.Proofs.Ytadmofpipfdedaa
end
section
set_option linter.unusedVariables false
set_option linter.unusedSimpArgs false
namespace Go.Proofs.Ytadmofpipfdedaa
open Go.RowKit

theorem row_setCell {w : World} {b k : Nat} {cur : Array Value} {u : Value} {t : TypeId} (h : w.heap[b]? = some (.cells cur t (0, 0))) : (w.setCell ⟨b, k, none⟩ u).heap[b]? = some (.cells (cur.setIfInBounds k u) t (0, 0)) := by
  obtain ⟨hlt, hb⟩ := Array.getElem?_eq_some_iff.1 h
  show (w.heap.modify b _)[b]? = _
  rw [Array.getElem?_eq_getElem (by simpa using hlt), Array.getElem_modify_self, hb]
  rfl
theorem row_frozen {w : World} {b k : Nat} {cur : Array Value} {t : TypeId} (h : w.heap[b]? = some (.cells cur t (0, 0))) : w.frozen? ⟨b, k, none⟩ = false := by
  simp [World.frozen?, h]
theorem lv_setCell {w : World} {g d : Nat} {lv : List Bool} {t : TypeId} (h : w.heap[g]? = some (.cells (lv.map Value.bool).toArray t (0, 0))) (hd : d < lv.length) (v : Bool) : w.cell? ⟨g, d, none⟩ = some (.bool (lv.getD d false)) ∧ w.frozen? ⟨g, d, none⟩ = false ∧ (w.setCell ⟨g, d, none⟩ (.bool v)).heap[g]? = some (.cells ((lv.set d v).map Value.bool).toArray t (0, 0)) ∧ w.grownBy (w.setCell ⟨g, d, none⟩ (.bool v)) (some g) := by
  refine ⟨?_, row_frozen h, ?_, ⟨rfl, rfl, rfl, by simp, fun k _ hne => Below.heap_setCell w _ _ k (fun e => hne (by rw [e]))⟩⟩
  · rw [cell_of_row w g d _ t _ h, List.getElem?_toArray, List.getElem?_map, List.getElem?_eq_getElem hd]
    simp [List.getD_eq_getElem?_getD, hd]
  · rw [row_setCell h, List.setIfInBounds_toArray, List.map_set]
theorem cnt_one {N : Bch} {D d : Nat} {lv : List Bool} (hn : D ≤ N.n) (hf : ∀ i, i < D → (N.D i).f = false) (hl : ∀ i, i < D → i ≠ d → lv.getD i false = true) : cntB D (fun i => !srvD N lv i) ≤ 1 := by
  have h : cntB D (fun i => !srvD N lv i) ≤ cntB D (fun i => decide (i = d)) := by
    unfold cntB
    refine len_le_map (f := id) (List.nodup_range.filter _) (fun a _ b _ e => e) fun i hi => ?_
    obtain ⟨h1, h2⟩ := List.mem_filter.1 hi
    have h1' := List.mem_range.1 h1
    refine List.mem_filter.2 ⟨h1, ?_⟩
    show decide (i = d) = true
    by_cases e : i = d
    · exact decide_eq_true e
    · rw [srvD_mk (by omega) (hl i h1' e) (hf i h1')] at h2; cases h2
  exact Nat.le_trans h (cntB_one_le _ _)
end Go.Proofs.Ytadmofpipfdedaa
end
section
set_option maxRecDepth 20000
set_option linter.unusedVariables false
set_option linter.unusedSimpArgs false
namespace Go.Proofs.Ytadmofpipfdedaa
open Go.RowKit

/-- A bench lies in just these blocks. -/
theorem bat_blocks {w : World} {B b : Nat} {H : BH} {N : Bch} (h : BAt w B b H N) : ∃ L : List (Nat × Obj), (∀ p ∈ L, w.heap[p.1]? = some p.2 ∧ BF b H N.n p.1) ∧ ∀ V : World, (∀ p ∈ L, V.heap[p.1]? = some p.2) → BAt V B b H N := by
  let keys := b :: H.g :: (List.range N.n).flatMap fun i => H.bk i :: (H.pv i).ownBlock.toList
  have hk : ∀ k, k ∈ keys ↔ BF b H N.n k := fun k => by
    show k ∈ b :: H.g :: _ ↔ _
    unfold BF DF
    simp only [List.mem_cons, List.mem_flatMap, List.mem_range, Option.mem_toList, Option.mem_def]
  refine ⟨keys.filterMap fun k => (w.heap[k]?).map fun o => (k, o), fun p hp => ?_, fun V hV => h.heap fun k hk' => ?_⟩
  · obtain ⟨k, h1, h2⟩ := List.mem_filterMap.1 hp
    obtain ⟨o, h3, rfl⟩ := Option.map_eq_some_iff.1 h2
    exact ⟨h3, (hk k).1 h1⟩
  · have hl := (h.flt hk').2
    obtain ⟨o, ho⟩ : ∃ o, w.heap[k]? = some o := ⟨w.heap[k], by simp [hl]⟩
    rw [ho]
    exact hV (k, o) (List.mem_filterMap.2 ⟨k, (hk k).2 hk', by rw [ho]; rfl⟩)
section
variable {W w w' : World} {b : Nat} {H : BH} {N : Bch} {K : List (Nat × Obj)} {R : List (Option Addr × List (List UInt8))} {S : List (Option Addr × List UInt8)}
/-- A clone, kept as blocks. -/
theorem ks_clone (h : KS W w b H N K R S) (hps : ∀ i, i < N.n → (N.D i).ps.length ≤ 2000000) :
    Calls Try.prog 13 #[.pointer (some ⟨b, 0, none⟩)] w fun e w' => ∃ b2 H2 L, e = .returned (.pointer (some ⟨b2, 0, none⟩)) ∧ KS W w' b H N (L ++ K) R S ∧ Below w.heap.size w w' ∧ ∀ V : World, (∀ p ∈ L, V.heap[p.1]? = some p.2) → BAt V W.heap.size b2 H2 N := by
  refine (bch_clone_any _ _ _ _ _ h.bp.at' hps).mono ?_
  rintro e w' ⟨b2, H2, rfl, ha, hb⟩
  obtain ⟨L, hL, hV⟩ := bat_blocks (ha.mono (B' := W.heap.size) h.bp.bel.size)
  refine ⟨b2, H2, L, rfl, ?_, hb, hV⟩
  have h' := h.below hb
  refine ⟨⟨h'.bp, fun p hp => ?_⟩, h'.rx, h'.sx⟩
  rcases List.mem_append.1 hp with h1 | h1
  · obtain ⟨h2, h3⟩ := hL p h1
    have h4 := (ha.flt h3).1
    exact ⟨h2, fun e => by have := h.flt _ e; omega, by have := h.bp.bel.size; omega⟩
  · exact h'.kx.kp p h1
end
end Go.Proofs.Ytadmofpipfdedaa
end
