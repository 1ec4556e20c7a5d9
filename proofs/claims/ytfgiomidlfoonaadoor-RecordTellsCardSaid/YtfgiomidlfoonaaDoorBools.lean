/- Slices that read as yes and no, or as whole numbers. Of no program. -/
import Derived.Test.YtfgiomidlfoonaaDoorMem
namespace Go.Proofs.YtfgiomidlfoonaaDoor
open Go.RowKit

/-- A slice that reads as yes and no. -/
def RdO (w : World) (B : Nat) (A : Option Addr) (ks : List Bool) : Prop :=
  ks.length ≤ 9223372036854775807 ∧ (0 < ks.length → ∃ b off, A = some ⟨b, off, none⟩ ∧ b < B ∧ ∀ k, k < ks.length → w.cell? ⟨b, off + k, none⟩ = some (.bool (ks.getD k false)))
theorem RdO.nil (w : World) (B : Nat) (A : Option Addr) : RdO w B A [] := ⟨by simp, fun h => by simp at h⟩
theorem RdO.keep {w w' : World} {B B' : Nat} {A : Option Addr} {ks : List Bool} (h : RdO w B A ks) (hB : B ≤ B') (hk : ∀ p : Addr, p.block < B → w'.cell? p = w.cell? p) : RdO w' B' A ks :=
  ⟨h.1, fun hn => by
    obtain ⟨b, off, e, hb, hc⟩ := h.2 hn
    exact ⟨b, off, e, by omega, fun k hk' => (hk ⟨b, off + k, none⟩ hb).trans (hc k hk')⟩⟩
theorem RdO.below {w w' : World} {B B' : Nat} {A : Option Addr} {ks : List Bool} (h : RdO w B A ks) (hb : Below B' w w') (hB : B ≤ B') : RdO w' B A ks := h.keep (Nat.le_refl _) fun p hp => hb.cell (by omega)
theorem RdO.drop {w : World} {B : Nat} {A : Option Addr} {ks : List Bool} (h : RdO w B A ks) (k cap : Nat) (hc : ks.length ≤ cap) : RdO w B (if cap = k then A else A.map (·.add k)) (ks.drop k) :=
  ⟨by have := h.1; simp; omega, fun hn => by
    have hn' : k < ks.length := by simp at hn; omega
    obtain ⟨b, off, rfl, hb, hc⟩ := h.2 (by omega)
    rw [if_neg (by omega)]
    refine ⟨b, off + k, ?_, hb, fun j hj => ?_⟩
    · unfold Addr.add; by_cases hk0 : k = 0 <;> simp [hk0]
    · have hj' : k + j < ks.length := by simp at hj; omega
      rw [Nat.add_assoc, hc (k + j) hj']
      simp⟩
theorem RdO.take {w : World} {B : Nat} {A : Option Addr} {ks : List Bool} (h : RdO w B A ks) (k : Nat) : RdO w B A (ks.take k) :=
  ⟨by have := h.1; simp; omega, fun hn => by
    have hk : 0 < k ∧ 0 < ks.length := by simp at hn; omega
    obtain ⟨b, off, e, hb, hc⟩ := h.2 hk.2
    refine ⟨b, off, e, hb, fun j hj => ?_⟩
    have hj' : j < k ∧ j < ks.length := by simp at hj; omega
    rw [hc j hj'.2]
    simp [hj'.1]⟩
/-- A slice that reads as these numbers. -/
def RdZ (w : World) (B : Nat) (A : Option Addr) (zs : List Int) : Prop :=
  zs.length ≤ 9223372036854775807 ∧ (∀ z ∈ zs, -9223372036854775808 ≤ z ∧ z ≤ 9223372036854775807) ∧ (0 < zs.length → ∃ b off, A = some ⟨b, off, none⟩ ∧ b < B ∧ ∀ k, k < zs.length → w.cell? ⟨b, off + k, none⟩ = some (.int .i64 (zs.getD k 0)))
theorem RdZ.nil (w : World) (B : Nat) (A : Option Addr) : RdZ w B A [] := ⟨by simp, fun z hz => by simp at hz, fun h => by simp at h⟩
theorem RdZ.keep {w w' : World} {B B' : Nat} {A : Option Addr} {zs : List Int} (h : RdZ w B A zs) (hB : B ≤ B') (hk : ∀ p : Addr, p.block < B → w'.cell? p = w.cell? p) : RdZ w' B' A zs :=
  ⟨h.1, h.2.1, fun hn => by
    obtain ⟨b, off, e, hb, hc⟩ := h.2.2 hn
    exact ⟨b, off, e, by omega, fun k hk' => (hk ⟨b, off + k, none⟩ hb).trans (hc k hk')⟩⟩
theorem RdZ.below {w w' : World} {B B' : Nat} {A : Option Addr} {zs : List Int} (h : RdZ w B A zs) (hb : Below B' w w') (hB : B ≤ B') : RdZ w' B A zs := h.keep (Nat.le_refl _) fun p hp => hb.cell (by omega)
theorem RdZ.bd {w : World} {B : Nat} {A : Option Addr} {zs : List Int} (h : RdZ w B A zs) (k : Nat) : -9223372036854775808 ≤ zs.getD k 0 ∧ zs.getD k 0 ≤ 9223372036854775807 := by
  by_cases hk : k < zs.length
  · exact h.2.1 _ (by simp [hk])
  · rw [List.getD_eq_getElem?_getD, List.getElem?_eq_none (by omega)]; simp
end Go.Proofs.YtfgiomidlfoonaaDoor
