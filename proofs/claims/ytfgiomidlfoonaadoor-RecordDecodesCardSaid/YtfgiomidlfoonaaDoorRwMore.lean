/- A row of sectors of one's own: cut short, one of them cut short, one more of them. -/
import Derived.Test.YtfgiomidlfoonaaDoorRaah
import Derived.Test.YtfgiomidlfoonaaDoorRaab
import Derived.IntWalk
set_option maxRecDepth 8000
set_option linter.unusedVariables false
set_option linter.unusedSimpArgs false
namespace Go.Proofs.YtfgiomidlfoonaaDoor
open Go.RowKit

theorem and31 (a : Int) : ∃ m : Nat, bits .and .i64 a 31 = (m : Int) ∧ m ≤ 31 := by
  refine ⟨(BitVec.ofInt 64 a &&& BitVec.ofInt 64 31).toNat, ?_, ?_⟩
  · show IntKind.i64.wrap ((BitVec.ofInt 64 a &&& BitVec.ofInt 64 31).toNat : Int) = _
    have h : (BitVec.ofInt 64 a &&& BitVec.ofInt 64 31).toNat ≤ 31 := by
      rw [BitVec.toNat_and, show (BitVec.ofInt 64 31).toNat = 31 from by decide]; exact Nat.and_le_right
    exact IntWalk.i64_in _ (by omega)
  · rw [BitVec.toNat_and, show (BitVec.ofInt 64 31).toNat = 31 from by decide]; exact Nat.and_le_right
theorem RdC.take {w : World} {B : Nat} {A : Option Addr} {rs : List (List UInt8)} (h : RdC w B A rs) (m : Nat) : RdC w B A (rs.take m) :=
  ⟨by have := h.1; simp; omega, fun hn => by
    have hn' : 0 < rs.length := by simp at hn; omega
    obtain ⟨b, off, e, hb, hc⟩ := h.2 hn'
    refine ⟨b, off, e, hb, fun k hk => ?_⟩
    have hk' : k < m ∧ k < rs.length := by simp at hk; omega
    have e2 : (rs.take m).getD k [] = rs.getD k [] := by simp [List.getD_eq_getElem?_getD, hk'.1]
    rw [e2]
    exact hc k hk'.2⟩
section
variable {lo : Nat} {W : World} {g cap n : Nat} {bk cp : Nat → Nat} {rs : List (List UInt8)}
theorem Rw.cutAt (h : Rw lo W g cap n bk cp rs) (k : Nat) (hk : k < n) (m : Nat) (hm : m ≤ 32) :
    RdC (W.setCell ⟨g, k, none⟩ (.slice (some ⟨bk k, 0, none⟩) m (cp k))) W.heap.size (some ⟨g, 0, none⟩) (rs.set k ((rs.getD k []).take m)) ∧ W.grownBy (W.setCell ⟨g, k, none⟩ (.slice (some ⟨bk k, 0, none⟩) m (cp k))) (some g) := by
  have hkl : k < rs.length := by rw [h.nn]; exact hk
  obtain ⟨_, h2⟩ := h.row.stored k (.slice (some ⟨bk k, 0, none⟩) m (cp k))
  refine ⟨⟨by rw [List.length_set]; have := h.nn; have := h.n9; omega, fun _ => ⟨g, 0, rfl, h.glt.2, fun j hj => ?_⟩⟩, h2⟩
  have hj' : j < n := by rw [List.length_set, h.nn] at hj; exact hj
  have ho : OwB 5 (W.setCell ⟨g, k, none⟩ (.slice (some ⟨bk k, 0, none⟩) m (cp k))) lo (.slice (some ⟨bk j, 0, none⟩) 32 (cp j)) (rs.getD j []) := (h.own j hj').grown h2 (.inr fun e => h.ne j hj' (by injection e))
  have hr : RdB (W.setCell ⟨g, k, none⟩ (.slice (some ⟨bk k, 0, none⟩) m (cp k))) W.heap.size (some ⟨bk j, 0, none⟩) (rs.getD j []) := by
    have := ho.rdS.1; simpa using this
  rw [rs_set_get hkl, Nat.zero_add]
  by_cases e : k = j
  · subst e
    rw [if_pos rfl]
    have hl : ((rs.getD k []).take m).length = m := by rw [List.length_take, h.len k hk]; omega
    refine ⟨some ⟨bk k, 0, none⟩, cp k, ?_, ?_, hr.take m⟩
    · rw [hl]; exact World.cell?_setCell_same _ _ _ (h.cell k hk)
    · rw [hl]; have := h.ccap k hk; omega
  · rw [if_neg e]
    refine ⟨some ⟨bk j, 0, none⟩, cp j, ?_, ?_, hr⟩
    · rw [h.len j hj', World.cell?_setCell_other _ _ _ _ (by intro q; injection q with _ q; exact e q)]; exact h.cell j hj'
    · rw [h.len j hj']; exact h.ccap j hj'
theorem Rw.snoc {W8 : World} {v' : Value} (h : Rw lo W g cap n bk cp rs) (hn : 0 < n) (hr : W8.ownsRow lo 22 1 v' (n + 1) (rwvs bk cp n ++ [rwv bk cp 0])) (hg : W.grownBy W8 (some g)) :
    ∃ A' c', v' = .slice A' (n + 1) c' ∧ n + 1 ≤ c' ∧ RdC W8 W8.heap.size A' (rs ++ [rs.getD 0 []]) := by
  obtain ⟨A, c, rfl, hc, hA⟩ := rx_form hr
  obtain ⟨g', rfl, _⟩ := hA (by omega)
  refine ⟨_, c, rfl, hc, by have := h.nn; have := h.n9; simp; omega, fun _ => ⟨g', 0, rfl, (hr.lt g' rfl).2, fun k hk => ?_⟩⟩
  have hk' : k < n + 1 := by have := h.nn; simp at hk; omega
  have hown : ∀ j, j < n → RdB W8 W8.heap.size (some ⟨bk j, 0, none⟩) (rs.getD j []) := fun j hj => ((h.own j hj).grown hg (.inr fun e => h.ne j hj (by injection e))).rdS.1
  rw [Nat.zero_add, rx_cell_at hr k (by simp [rwvs_len]; omega)]
  by_cases e : k < n
  · have e1 : (rs ++ [rs.getD 0 []]).getD k [] = rs.getD k [] := by simp [List.getD_eq_getElem?_getD, List.getElem?_append_left (show k < rs.length by rw [h.nn]; exact e)]
    rw [e1, List.getElem?_append_left (by rw [rwvs_len]; exact e), rwvs_get e]
    exact ⟨some ⟨bk k, 0, none⟩, cp k, by rw [h.len k e]; rfl, by rw [h.len k e]; exact h.ccap k e, hown k e⟩
  · obtain rfl : k = n := by omega
    have e1 : (rs ++ [rs.getD 0 []]).getD k [] = rs.getD 0 [] := by simp [List.getD_eq_getElem?_getD, List.getElem?_append_right (show rs.length ≤ k by rw [h.nn]; omega), h.nn]
    rw [e1, List.getElem?_append_right (by rw [rwvs_len]; omega), rwvs_len, Nat.sub_self]
    exact ⟨some ⟨bk 0, 0, none⟩, cp 0, by rw [h.len 0 hn]; rfl, by rw [h.len 0 hn]; exact h.ccap 0 hn, hown 0 hn⟩
end
end Go.Proofs.YtfgiomidlfoonaaDoor
