/- What PlaceRows' sets hold, in plain numbers; what stays while it runs. -/
import Derived.Test.YtclmgldlpjhepaaPlaceAll
import Derived.Test.YtclmgldlpjhepaaPlaceWakes
import Derived.Test.YtclmgldlpjhepaaPlayGood
import Derived.Test.YtclmgldlpjhepaaSetInt
import Derived.Test.YtclmgldlpjhepaaRefNums
namespace Go.Proofs.Ytclmgldlpjhepaa
open Go.RowKit

/-- The disks of parity. -/
def parX (l d c r : Int) : List Int := if l = 6 then [plQ l d c r, plP l d c r] else [plP l d c r]
/-- The disks of parity, and of the first k data chunks. -/
def rowX (l d c r : Int) : Nat → List Int
  | 0 => parX l d c r
  | k + 1 => plD l d c r (k : Int) :: rowX l d c r k
theorem rowX_len (l d c r : Int) : ∀ k, (rowX l d c r k).length = k + (parX l d c r).length
  | 0 => by simp [rowX]
  | k + 1 => by simp [rowX, rowX_len l d c r k]; omega
theorem rowX_all {l d c r : Int} (hg : gOk l d c = true) {k : Nat} (hk : gWid l d c = (k : Int)) : ((rowX l d c r k).length : Int) = d := by
  rw [rowX_len]
  rw [gWid_yes hg] at hk
  have hb := gOk_yes hg
  unfold parX
  by_cases h : l = 6
  · rw [if_pos h]; simp; omega
  · rw [if_neg h]; simp; omega
theorem rowX_mem {l d c r : Int} {x : Int} : ∀ {k : Nat}, x ∈ rowX l d c r k → x = plP l d c r ∨ x = plQ l d c r ∨ ∃ i : Nat, i < k ∧ x = plD l d c r (i : Int)
  | 0, h => by
    unfold rowX parX at h
    split at h <;> simp at h
    · rcases h with h | h
      · exact .inr (.inl h)
      · exact .inl h
    · exact .inl h
  | k + 1, h => by
    simp only [rowX, List.mem_cons] at h
    rcases h with h | h
    · exact .inr (.inr ⟨k, by omega, h⟩)
    · rcases rowX_mem h with h | h | ⟨i, hi, e⟩
      · exact .inl h
      · exact .inr (.inl h)
      · exact .inr (.inr ⟨i, by omega, e⟩)
theorem rowX_new {l d c r : Int} (hk : plOk l d c r = true) {k : Nat} (hw : (k : Int) < gWid l d c) : plD l d c r (k : Int) ∉ rowX l d c r k := fun h => by
  have hdk : ∀ i : Nat, i ≤ k → plDok l d c r (i : Int) = true := fun i hi => by unfold plDok; rw [hk, decide_eq_true ⟨by omega, by omega⟩]; rfl
  obtain ⟨_, _, n1, n2⟩ := data_ne (hdk k (Nat.le_refl _))
  rcases rowX_mem h with h | h | ⟨i, hi, e⟩
  · exact n1 h
  · exact n2 h
  · have h1 := plK_only (hdk k (Nat.le_refl _)) rfl
    have h2 := plK_only (hdk i (by omega)) rfl
    rw [e, ← h2] at h1
    omega
structure VS (w W : World) (gb mb : Nat) (l d c r : Int) (ab ao : Nat) (ns : List Int) (s : Nat) : Prop where
  gs : GS w w.heap.size gb l d c W
  mp : SetI W mb (rowX l d c r s)
  lo : w.heap.size ≤ mb
  ne : mb ≠ gb
  na : ab ≠ mb
  rd : ∀ j, j < ns.length → W.cell? ⟨ab, ao + j, none⟩ = some (.int .i64 (ns.getD j 0))
theorem VS.below {w W W' : World} {gb mb ab ao : Nat} {l d c r : Int} {ns : List Int} {s : Nat} (h : VS w W gb mb l d c r ab ao ns s) (hb : Below W.heap.size W W') : VS w W' gb mb l d c r ab ao ns s :=
  ⟨h.gs.later hb, h.mp.below hb, h.lo, h.ne, h.na, fun j hj => (hb.cell (p := ⟨ab, ao + j, none⟩) (World.block_lt_of_cell? _ _ (h.rd j hj))).trans (h.rd j hj)⟩
theorem VS.drew {w W : World} {gb mb ab ao : Nat} {l d c r : Int} {ns : List Int} {s : Nat} (h : VS w W gb mb l d c r ab ao ns s) : VS w W.drew gb mb l d c r ab ao ns s := ⟨GS.drew h.gs, h.mp, h.lo, h.ne, h.na, h.rd⟩
theorem VS.look {w W : World} {gb mb ab ao : Nat} {l d c r : Int} {ns : List Int} {s : Nat} (h : VS w W gb mb l d c r ab ao ns s) (hk : plOk l d c r = true) (hw : (s : Int) < gWid l d c) (hx : -9223372036854775808 ≤ plD l d c r (s : Int) ∧ plD l d c r (s : Int) ≤ 9223372036854775807) :
    (Instr.lookup 44 (.map (some mb)) (.int .i64 (plD l d c r (s : Int))) false).run Try.prog W = .ok (.bool false) W := by
  have := h.mp.look _ hx
  rwa [decide_eq_false (rowX_new hk hw)] at this
theorem VS.step {w W : World} {gb mb ab ao : Nat} {l d c r : Int} {ns : List Int} {s : Nat} (h : VS w W gb mb l d c r ab ao ns s) (hk : plOk l d c r = true) (hw : (s : Int) < gWid l d c) (hx : -9223372036854775808 ≤ plD l d c r (s : Int) ∧ plD l d c r (s : Int) ≤ 9223372036854775807) :
    ∃ W', (Instr.mapUpdate 44 (.map (some mb)) (.int .i64 (plD l d c r (s : Int))) (.bool true)).run Try.prog W = .ok () W' ∧ VS w W' gb mb l d c r ab ao ns (s + 1) := by
  have hl : (parX l d c r).length ≤ 2 := by unfold parX; split <;> simp
  have hb := gWid_bd l d c
  obtain ⟨W', hrun, hm, hg⟩ := h.mp.store (by rw [rowX_len]; omega) _ hx (rowX_new hk hw)
  refine ⟨W', hrun, h.gs.grown hg h.gs.2.2.2.size (fun k e => ?_), hm, h.lo, h.ne, h.na, fun j hj => hg.cell (h.rd j hj) (fun e => by injection e with e; exact h.na e)⟩
  injection e with e
  subst e
  exact ⟨h.lo, h.ne⟩
/-- A box, and one more cell. -/
abbrev GC (w0 : World) (B b : Nat) (l d c : Int) (p : Addr) (z : Int) (W : World) : Prop := W.cell? ⟨b, 0, none⟩ = some (.int .i64 l) ∧ W.cell? ⟨b, 1, none⟩ = some (.int .i64 d) ∧ W.cell? ⟨b, 2, none⟩ = some (.int .i64 c) ∧ W.cell? p = some (.int .i64 z) ∧ Below B w0 W
theorem GC.drew {w0 W : World} {B b : Nat} {l d c z : Int} {p : Addr} (h : GC w0 B b l d c p z W) : GC w0 B b l d c p z W.drew := ⟨h.1, h.2.1, h.2.2.1, h.2.2.2.1, h.2.2.2.2.drew⟩
theorem GC.later {w0 W W' : World} {B b : Nat} {l d c z : Int} {p : Addr} (h : GC w0 B b l d c p z W) (hb : Below W.heap.size W W') (hB : B ≤ w0.heap.size := by exact Nat.le_refl _) : GC w0 B b l d c p z W' := by
  obtain ⟨h1, h2, h3, h4, F⟩ := h
  have hl := World.block_lt_of_cell? _ _ h1
  have hp := World.block_lt_of_cell? _ _ h4
  obtain ⟨a1, a2, a3⟩ := GAt.below ⟨h1, h2, h3⟩ hb hl
  exact ⟨a1, a2, a3, (hb.cell (p := p) hp).trans h4, F.trans (hb.mono (Nat.le_trans hB F.size))⟩
theorem SetI.not_cell {w : World} {B b o : Nat} {xs : List Int} {v : Value} (h : SetI w B xs) (hc : w.cell? ⟨b, o, none⟩ = some v) : b ≠ B := fun e => by
  obtain ⟨D, ⟨es, clock, hb, _⟩, _⟩ := h
  subst e
  simp [World.cell?, hb] at hc
end Go.Proofs.Ytclmgldlpjhepaa
