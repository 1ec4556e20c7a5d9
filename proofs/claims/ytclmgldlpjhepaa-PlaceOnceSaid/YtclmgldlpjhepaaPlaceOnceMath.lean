/- What PlaceOnce's set holds, in plain numbers; what stays while it runs. -/
import Derived.Test.YtclmgldlpjhepaaPlaceAll
import Derived.Test.YtclmgldlpjhepaaPlaceWakes
import Derived.Test.YtclmgldlpjhepaaPlayGood
import Derived.Test.YtclmgldlpjhepaaSetPair
import Derived.Test.YtclmgldlpjhepaaRefNums
namespace Go.Proofs.Ytclmgldlpjhepaa
open Go.RowKit

/-- The places of the first k sectors. -/
def onX (l d c : Int) : Nat → List (Int × Int)
  | 0 => []
  | k + 1 => (plOfD l d c (k : Int), plOfR l d c (k : Int)) :: onX l d c k
theorem onX_len (l d c : Int) : ∀ k, (onX l d c k).length = k
  | 0 => rfl
  | k + 1 => by simp [onX, onX_len l d c k]
theorem onX_mem {l d c : Int} {p : Int × Int} : ∀ {k : Nat}, p ∈ onX l d c k → ∃ i : Nat, i < k ∧ p = (plOfD l d c (i : Int), plOfR l d c (i : Int))
  | 0, h => by simp [onX] at h
  | k + 1, h => by
    simp only [onX, List.mem_cons] at h
    rcases h with h | h
    · exact ⟨k, by omega, h⟩
    · obtain ⟨i, hi, e⟩ := onX_mem h
      exact ⟨i, by omega, e⟩
theorem onX_new {l d c : Int} (hg : gOk l d c = true) {k : Nat} (hk : (k : Int) < gCap l d c) : (plOfD l d c (k : Int), plOfR l d c (k : Int)) ∉ onX l d c k := fun h => by
  obtain ⟨i, hi, e⟩ := onX_mem h
  injection e with e1 e2
  obtain ⟨_, _, _, _, _, h1⟩ := of_back hg (show (0 : Int) ≤ (k : Int) by omega) hk
  obtain ⟨_, _, _, _, _, h2⟩ := of_back hg (show (0 : Int) ≤ (i : Int) by omega) (by omega)
  rw [e1, e2, h2] at h1
  omega
theorem onX_par {l d c r : Int} (hk : plOk l d c r = true) {k : Nat} (hc : (k : Int) ≤ gCap l d c) : (plP l d c r, r) ∉ onX l d c k ∧ (plQ l d c r, r) ∉ onX l d c k := by
  have hg := (plOk_yes hk).1
  refine ⟨fun h => ?_, fun h => ?_⟩
  all_goals
    obtain ⟨i, hi, e⟩ := onX_mem h
    injection e with e1 e2
    obtain ⟨_, hr, hd, hdk⟩ := of_yes hg (show (0 : Int) ≤ (i : Int) by omega) (show (i : Int) < gCap l d c by omega)
    obtain ⟨_, _, n1, n2⟩ := data_ne hdk
    rw [← hr, ← e2] at hd n1 n2
    rw [← hr, ← e2] at hdk
    first | exact n1 (hd.symm.trans e1.symm) | exact n2 (hd.symm.trans e1.symm)
structure US (w W : World) (gb mb : Nat) (l d c : Int) (s : Nat) : Prop where
  gs : GS w w.heap.size gb l d c W
  mp : SetP W mb (onX l d c s)
  lo : w.heap.size ≤ mb
  ne : mb ≠ gb
theorem US.below {w W W' : World} {gb mb : Nat} {l d c : Int} {s : Nat} (h : US w W gb mb l d c s) (hb : Below W.heap.size W W') : US w W' gb mb l d c s := ⟨h.gs.later hb, h.mp.below hb, h.lo, h.ne⟩
theorem US.look {w W : World} {gb mb : Nat} {l d c : Int} {s : Nat} (h : US w W gb mb l d c s) (x y : Int) (hx : -9223372036854775808 ≤ x ∧ x ≤ 9223372036854775807) (hy : -9223372036854775808 ≤ y ∧ y ≤ 9223372036854775807) (hn : (x, y) ∉ onX l d c s) :
    (Instr.lookup 42 (.map (some mb)) (.agg #[.int .i64 x, .int .i64 y]) false).run Try.prog W = .ok (.bool false) W := by
  have := h.mp.look x y hx hy
  rwa [decide_eq_false hn] at this
theorem US.step {w W : World} {gb mb : Nat} {l d c : Int} {s : Nat} (h : US w W gb mb l d c s) (hs : s < 200) (hx : -9223372036854775808 ≤ plOfD l d c (s : Int) ∧ plOfD l d c (s : Int) ≤ 9223372036854775807) (hy : -9223372036854775808 ≤ plOfR l d c (s : Int) ∧ plOfR l d c (s : Int) ≤ 9223372036854775807) :
    ∃ W', (Instr.mapUpdate 42 (.map (some mb)) (.agg #[.int .i64 (plOfD l d c (s : Int)), .int .i64 (plOfR l d c (s : Int))]) (.bool true)).run Try.prog W = .ok () W' ∧ US w W' gb mb l d c (s + 1) := by
  obtain ⟨W', hrun, hm, hg⟩ := h.mp.store (by rw [onX_len]; omega) _ _ hx hy
  refine ⟨W', hrun, h.gs.grown hg h.gs.2.2.2.size (fun k e => ?_), hm, h.lo, h.ne⟩
  injection e with e
  subst e
  exact ⟨h.lo, h.ne⟩
end Go.Proofs.Ytclmgldlpjhepaa
