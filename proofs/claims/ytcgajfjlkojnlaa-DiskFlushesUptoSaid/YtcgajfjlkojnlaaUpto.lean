/- What the bound of a narrowed statement gives. -/
import Derived.Test.YtcgajfjlkojnlaaRows
import Derived.Test.YtcgajfjlkojnlaaLawArgs
import Derived.JoinedCond
namespace Go.Proofs.Ytcgajfjlkojnlaa
open Go.ChangeShapes Go.WideShapes Go.ChangeAt Go.RowKit Go.Deep

theorem bulk_pos {H : Type} (d : DataW H) : 1 ≤ Rows.uptoBulk d := by
  cases d with
  | lit l => cases l <;> simp [Rows.uptoBulk]
  | _ => simp [Rows.uptoBulk]
theorem bulk_len {H : Type} : ∀ l : List (DataW H), l.length ≤ Rows.uptoBulkAll l
  | [] => by simp [Rows.uptoBulkAll]
  | d :: l => by
    have h1 := bulk_pos d
    have h2 := bulk_len l
    simp only [Rows.uptoBulkAll, List.length_cons]
    omega
theorem bulk_mem {H : Type} {d : DataW H} : ∀ {l : List (DataW H)}, d ∈ l → Rows.uptoBulk d ≤ Rows.uptoBulkAll l
  | x :: l, h => by
    simp only [Rows.uptoBulkAll]
    rcases List.mem_cons.1 h with rfl | h
    · omega
    · have := bulk_mem h; omega
theorem bulk_of {H : Type} {d : DataW H} {l : List (DataW H)} (hk : Rows.uptoSmall H l = true) (h : d ∈ l) : Rows.uptoBulk d ≤ 1048576 := by
  have h1 : Rows.uptoBulkAll l ≤ 1048576 := of_decide_eq_true hk
  have := bulk_mem h
  omega
section
variable {H : Type} {enc : TypeId × Value → H} {P : Program}
/-- A slice of whole numbers that came in, of a bulk that is bounded. -/
theorem open_rdz_small {t e : TypeId} (ht : P.underlying t = some (.slice e)) (he : P.underlying e = some (.int .i64)) (hc : P.cellsOf e = 1) {r : Reach} {W : World} {base : Nat} {v : Value} {d : DataW H} {p : List MemPlace}
    (hv : Value.okWide P W r base t v) (h : DataW.Trod enc P W 0 (fun _ => true) true t v d p) (hb : Rows.uptoBulk d ≤ 1048576) : ∃ A zs cap, v = .slice A zs.length cap ∧ zs.length ≤ cap ∧ RdZ W W.heap.size A zs ∧ zs.length ≤ 1048576 ∧ cap ≤ 9223372036854775807 := by
  obtain ⟨A, zs, cap, rfl, hl, hr⟩ := open_rdz ht he hc hv h
  have hboth : zs.length ≤ 1048576 ∧ cap ≤ 9223372036854775807 := by
    obtain ⟨fuel, hf⟩ := h
    rcases open_ints ht he hc hf with ⟨hcs, _⟩ | ⟨x, l, c, ys, hcs, _, hl2, hm, hz, hd, _, _⟩
    · simp only [Value.cells, List.cons.injEq, Value.slice.injEq] at hcs
      obtain ⟨⟨_, h1, h2⟩, _⟩ := hcs
      omega
    · simp only [Value.cells, List.cons.injEq, Value.slice.injEq] at hcs
      obtain ⟨⟨_, h1, h2⟩, _⟩ := hcs
      simp only [if_true] at hz
      injection hd with hd1 hd2
      rw [hd1] at hb
      simp only [Rows.uptoBulk] at hb
      have b1 := bulk_len (lits (H := H) .i64 (ys.take l))
      have b2 := bulk_len (lits (H := H) .i64 (ys.drop l))
      have e1 : (lits (H := H) .i64 (ys.take l)).length = l := by unfold lits; rw [List.length_map, List.length_take]; omega
      rw [e1] at b1
      unfold maxLen at hm
      omega
  exact ⟨A, zs, cap, rfl, hl, hr, hboth.1, hboth.2⟩
end
end Go.Proofs.Ytcgajfjlkojnlaa
