/- Texts put together: StpLawKit, StpOneMath, KsFar. -/
import Derived.Test.YtadmofpipfdedaaRrbb
import Derived.Test.YtadmofpipfdedaaRray
import Derived.Test.YtadmofpipfdedaaRrba
import Derived.Test.YtadmofpipfdedaaRrak
import Derived.Test.YtadmofpipfdedaaRrav
section
set_option maxRecDepth 20000
set_option linter.unusedVariables false
set_option linter.unusedSimpArgs false
namespace Go.Proofs.Ytadmofpipfdedaa
open Go.RowKit

section
variable {W w w' : World} {b : Nat} {H : BH} {N : Bch} {K : List (Nat × Obj)} {R : List (Option Addr × List (List UInt8))} {S : List (Option Addr × List UInt8)}
/-- A block that was made since. -/
theorem KS.block (h : KS W w b H N K R S) (hb : Below w.heap.size w w') {g : Nat} {o : Obj} (hg : w'.heap[g]? = some o) (hw : w.heap.size ≤ g) : KS W w' b H N ((g, o) :: K) R S := by
  have h' := h.below hb
  refine ⟨⟨h'.bp, fun p hp => ?_⟩, h'.rx, h'.sx⟩
  rcases List.mem_cons.1 hp with rfl | hp
  · exact ⟨hg, fun e => by have := h.flt _ e; omega, by have := h.bp.bel.size; omega⟩
  · exact h'.kx.kp p hp
theorem KS.owv (h : KS W w b H N K R S) (hb : Below w.heap.size w w') {v : Value} {rs : List (List UInt8)} (ho : OwV w.heap.size w' v rs) (hl : rs.length ≤ 1000000) : ∃ A c, v = .slice A rs.length c ∧ KS W w' b H N K ((A, rs) :: R) S := by
  obtain ⟨xs, h1, h2⟩ := ho
  obtain ⟨A, c, e, _, hr⟩ := rdf_own h1 (by omega) h2
  exact ⟨A, c, e, h.rows hb hr⟩
end
section
variable {W w : World} {b : Nat} {H : BH} {N : Bch} {K : List (Nat × Obj)} {R : List (Option Addr × List (List UInt8))} {S : List (Option Addr × List UInt8)} (h : KS W w b H N K R S)
include h
theorem ks_live (n : Int) (d : Nat) (hn : (-9223372036854775808 ≤ n ∧ n ≤ 9223372036854775807)) (hd : 1 ≤ d ∧ d ≤ 8) :
    Calls Try.prog 14 #[.int .i64 n, .int .i64 (d : Int)] w fun e w' => ∃ g, e = .returned (.slice (some ⟨g, 0, none⟩) d d) ∧ KS W w' b H N ((g, Obj.cells ((liveL n d).map Value.bool).toArray 4 (0, 0)) :: K) R S := by
  refine (live_any n d w hn hd).mono ?_
  rintro e w' ⟨g, rfl, hg, hw, hb⟩
  exact ⟨g, rfl, h.block hb hg hw⟩
end
theorem live0 {d i : Nat} (hi : i < d) : (liveL 0 d).getD i false = true := by
  rw [liveL_get 0 hi]
  unfold liveB
  rw [if_neg, if_neg]
  · rintro ⟨h, _⟩; revert h; decide
  · rintro ⟨h, _⟩; revert h; decide
end Go.Proofs.Ytadmofpipfdedaa
end
section
set_option linter.unusedVariables false
set_option linter.unusedSimpArgs false
namespace Go.Proofs.Ytadmofpipfdedaa
open Go.RowKit

theorem row_setCell {w : World} {b k : Nat} {cur : Array Value} {u : Value} {t : TypeId} (h : w.heap[b]? = some (.cells cur t (0, 0))) : (w.setCell ⟨b, k, none⟩ u).heap[b]? = some (.cells (cur.setIfInBounds k u) t (0, 0)) := by
  obtain ⟨hlt, hb⟩ := Array.getElem?_eq_some_iff.1 h
  show (w.heap.modify b _)[b]? = _
  rw [Array.getElem?_eq_getElem (by simpa using hlt), Array.getElem_modify_self, hb]
  rfl
theorem row_frozen {w : World} {b k : Nat} {cur : Array Value} {t : TypeId} (h : w.heap[b]? = some (.cells cur t (0, 0))) : w.frozen? ⟨b, k, none⟩ = false := by
  simp [World.frozen?, h]
theorem lv_setCell {w : World} {g d : Nat} {lv : List Bool} {t : TypeId} (h : w.heap[g]? = some (.cells (lv.map Value.bool).toArray t (0, 0))) (hd : d < lv.length) (v : Bool) : w.cell? ⟨g, d, none⟩ = some (.bool (lv.getD d false)) ∧ w.frozen? ⟨g, d, none⟩ = false ∧ (w.setCell ⟨g, d, none⟩ (.bool v)).heap[g]? = some (.cells ((lv.set d v).map Value.bool).toArray t (0, 0)) ∧ w.grownBy (w.setCell ⟨g, d, none⟩ (.bool v)) (some g) := by
  refine ⟨?_, row_frozen h, ?_, ⟨rfl, rfl, rfl, by simp, fun k _ hne => Below.heap_setCell w _ _ k (fun e => hne (by rw [e]))⟩⟩
  · rw [cell_of_row w g d _ t _ h, List.getElem?_toArray, List.getElem?_map, List.getElem?_eq_getElem hd]
    simp [List.getD_eq_getElem?_getD, hd]
  · rw [row_setCell h, List.setIfInBounds_toArray, List.map_set]
theorem cnt_one {N : Bch} {D d : Nat} {lv : List Bool} (hn : D ≤ N.n) (hf : ∀ i, i < D → (N.D i).f = false) (hl : ∀ i, i < D → i ≠ d → lv.getD i false = true) : cntB D (fun i => !srvD N lv i) ≤ 1 := by
  have h : cntB D (fun i => !srvD N lv i) ≤ cntB D (fun i => decide (i = d)) := by
    unfold cntB
    refine len_le_map (f := id) (List.nodup_range.filter _) (fun a _ b _ e => e) fun i hi => ?_
    obtain ⟨h1, h2⟩ := List.mem_filter.1 hi
    have h1' := List.mem_range.1 h1
    refine List.mem_filter.2 ⟨h1, ?_⟩
    show decide (i = d) = true
    by_cases e : i = d
    · exact decide_eq_true e
    · rw [srvD_mk (by omega) (hl i h1' e) (hf i h1')] at h2; cases h2
  exact Nat.le_trans h (cntB_one_le _ _)
end Go.Proofs.Ytadmofpipfdedaa
end
section
set_option maxRecDepth 20000
set_option linter.unusedVariables false
set_option linter.unusedSimpArgs false
namespace Go.Proofs.Ytadmofpipfdedaa
open Go.RowKit

section
variable {W w w' : World} {b : Nat} {H : BH} {N : Bch} {K : List (Nat × Obj)} {R : List (Option Addr × List (List UInt8))} {S : List (Option Addr × List UInt8)}
end
/-- A row of slices grows by one. -/
theorem wpList_append_row {w : World} {ops : Array Oper} {rest : List Oper} {o : Oper} {a : Act} {Q : Exit → Act → World → Prop} (hw : Region.wanted o (yielded ops a.tmps) = true) (s x : Operand) (t : TypeId)
    (ho : o.op = .call { callee := .builtin .append, args := #[s, x], argTypes := #[t, t] }) (ht : Try.prog.underlying t = some (.slice 45)) (lo : Nat) (v : Value) (rs : List (List UInt8)) (hs : a.eval s = v) (hown : OwV lo w v rs) (g : Nat) (t' : TypeId) (f' : Nat × Nat) (A : Option Addr) (c : Nat) (y : List UInt8)
    (hx : a.eval x = .slice (some ⟨g, 0, none⟩) 1 1) (hg : w.heap[g]? = some (.cells #[.slice A y.length c] t' f')) (hy : RdBF lo w A y) (hne : 0 < y.length → ∀ a, A = some a → some a.block ≠ v.ownBlock) (hn : rs.length ≤ 1000000) (hlo : lo ≤ w.heap.size)
    (h : ∀ v' w', OwV lo w' v' (rs ++ [y]) → w.grownBy w' v.ownBlock → wpList Try.prog ops Q rest (a.put o.dst v') w') : wpList Try.prog ops Q (o :: rest) a w := by
  obtain ⟨xs, h1, h2⟩ := hown
  have hgl := (Array.getElem?_eq_some_iff.1 hg).1
  refine wpList_append_V hw s x t ho lo 45 (.slice none 0 0) 24 ht info_row2 rfl v rs.length xs hs h1 w.heap.size (some ⟨g, 0, none⟩) 1 1 [.slice A y.length c] hx rfl (fun _ => ⟨g, 0, rfl, by omega, fun j hj => by obtain rfl : j = 0 := (by simp at hj; omega); exact cell_of_row _ _ _ _ _ _ hg⟩) (fun u hu => by simp at hu; subst hu; rfl) (by unfold maxLen; omega) (by omega) hlo fun v' w' o' g' at' => ?_
  exact h v' w' ⟨_, by rw [List.length_append]; exact o', (h2.snoc (c := c) hy hne).grown g' at'⟩ g'
theorem OwV.lt {lo : Nat} {w : World} {v : Value} {rs : List (List UInt8)} (h : OwV lo w v rs) : ∀ k, v.ownBlock = some k → lo ≤ k ∧ k < w.heap.size := by
  obtain ⟨xs, h1, _⟩ := h
  exact World.ownsRow.lt h1
end Go.Proofs.Ytadmofpipfdedaa
end
