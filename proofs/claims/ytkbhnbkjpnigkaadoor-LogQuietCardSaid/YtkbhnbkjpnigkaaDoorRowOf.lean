/- Rows of cells by a function; a row of yes and no that is made. -/
import Derived.Test.YtkbhnbkjpnigkaaDoorLcav
set_option maxRecDepth 8000
set_option linter.unusedVariables false
set_option linter.unusedSimpArgs false
namespace Go.Proofs.YtkbhnbkjpnigkaaDoor
open Go.RowKit

def rowOf (F : Nat → Value) (n : Nat) : List Value := (List.range n).map F
theorem rowOf_len (F : Nat → Value) (n : Nat) : (rowOf F n).length = n := by unfold rowOf; simp
theorem rowOf_get {n i : Nat} (F : Nat → Value) (h : i < n) : (rowOf F n)[i]? = some (F i) := by unfold rowOf; simp [h]
theorem rowOf_set {n i : Nat} (F : Nat → Value) (v : Value) (h : i < n) : spl (rowOf F n) i [v] = rowOf (upd F i v) n := by
  apply List.ext_getElem?
  intro j
  have hl : ((rowOf F n).take i).length = i := by rw [List.length_take, rowOf_len]; omega
  unfold spl
  rw [List.append_assoc]
  by_cases hj : j < i
  · rw [List.getElem?_append_left (by omega), List.getElem?_take, if_pos hj, rowOf_get _ (by omega), rowOf_get _ (by omega), upd_other _ _ (by omega)]
  · rw [List.getElem?_append_right (by omega), hl]
    by_cases e : j = i
    · subst e; rw [Nat.sub_self, rowOf_get _ h, upd_same]; rfl
    · obtain ⟨k, hk⟩ : ∃ k, j - i = k + 1 := ⟨j - i - 1, by omega⟩
      rw [hk, List.cons_append, List.getElem?_cons_succ, List.nil_append, List.getElem?_drop]
      rw [show i + [v].length + k = j by simp; omega]
      by_cases hjn : j < n
      · rw [rowOf_get _ hjn, rowOf_get _ hjn, upd_other _ _ e]
      · rw [List.getElem?_eq_none (by rw [rowOf_len]; omega), List.getElem?_eq_none (by rw [rowOf_len]; omega)]
theorem rowOf_made (z : Value) (n : Nat) : madeCells #[z] n = (rowOf (fun _ => z) n).toArray := by
  apply Array.toList_inj.1
  apply List.ext_getElem?
  intro j
  rw [toList_madeCells_one, List.getElem?_replicate]
  by_cases h : j < n
  · rw [if_pos h]
    show _ = (rowOf (fun _ => z) n)[j]?
    rw [rowOf_get _ h]
  · rw [if_neg h]
    show _ = (rowOf (fun _ => z) n)[j]?
    rw [List.getElem?_eq_none (by rw [rowOf_len]; omega)]
theorem info_boo : (Tryd.prog.info? 4).map (fun i => (i.zero, i.size, i.bytes)) = some (some (.bool false), 1, 1) := by kernel_rfl
theorem make_bools (n : Nat) (hn : n ≤ 1000000) (w : World) : (Instr.makeSlice 34 (.int .i64 (n : Int)) (.int .i64 (n : Int))).run Tryd.prog w = .ok (.slice (some ⟨w.heap.size, 0, none⟩) n n) (w.alloc (.cells (rowOf (fun _ => .bool false) n).toArray 4)) := by
  rw [← rowOf_made (.bool false) n]
  exact run_make_row' _ _ _ 1 Tryd.underlying34 info_boo rfl _ _ n (by omega) (by omega) w
end Go.Proofs.YtkbhnbkjpnigkaaDoor
