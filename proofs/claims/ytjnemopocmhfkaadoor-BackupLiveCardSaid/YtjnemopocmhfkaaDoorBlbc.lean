/- Texts put together: RdX, Kx, PlayLive. -/
import Derived.Test.YtjnemopocmhfkaaDoorBlba
import Derived.Test.YtjnemopocmhfkaaDoorBlal
import Derived.Test.YtjnemopocmhfkaaDoorBlah
section
set_option linter.unusedVariables false
set_option linter.unusedSimpArgs false
namespace Go.Proofs.YtjnemopocmhfkaaDoor
open Go.RowKit

def RdBX (F : Nat → Prop) (w : World) (A : Option Addr) (bs : List UInt8) : Prop :=
  bs.length ≤ 140737488355328 ∧ (0 < bs.length → ∃ b off, A = some ⟨b, off, none⟩ ∧ b < w.heap.size ∧ ¬ F b ∧ ∀ k, k < bs.length → w.cell? ⟨b, off + k, none⟩ = some (.int .u8 ((bs.getD k 0).toNat : Int)))
def RdRX (F : Nat → Prop) (w : World) (A : Option Addr) (rs : List (List UInt8)) : Prop :=
  rs.length ≤ 140737488355328 ∧ (0 < rs.length → ∃ b off, A = some ⟨b, off, none⟩ ∧ b < w.heap.size ∧ ¬ F b ∧ ∀ k, k < rs.length → ∃ A' c, w.cell? ⟨b, off + k, none⟩ = some (.slice A' (rs.getD k []).length c) ∧ RdBX F w A' (rs.getD k []))
section
variable {F F' : Nat → Prop} {w w' : World} {A : Option Addr} {bs : List UInt8} {rs : List (List UInt8)}
theorem RdBX.rdb (h : RdBX F w A bs) : RdB w w.heap.size A bs :=
  ⟨h.1, fun h0 => by
    obtain ⟨b, off, e, hb, _, hc⟩ := h.2 h0
    exact ⟨b, off, e, hb, hc⟩⟩
theorem RdRX.rdr (h : RdRX F w A rs) : RdR w w.heap.size A rs :=
  ⟨h.1, fun h0 => by
    obtain ⟨b, off, e, hb, _, hc⟩ := h.2 h0
    refine ⟨b, off, e, hb, fun k hk => ?_⟩
    obtain ⟨A', c, h1, h2⟩ := hc k hk
    exact ⟨A', c, h1, h2.rdb⟩⟩
theorem RdBX.keep (h : RdBX F w A bs) (hz : w.heap.size ≤ w'.heap.size) (hk : ∀ p : Addr, ¬ F p.block → p.block < w.heap.size → w'.cell? p = w.cell? p) (hF : ∀ k, k < w.heap.size → F' k → F k) : RdBX F' w' A bs :=
  ⟨h.1, fun h0 => by
    obtain ⟨b, off, e, hb, hl, hc⟩ := h.2 h0
    exact ⟨b, off, e, by omega, fun q => hl (hF b hb q), fun k hk' => (hk ⟨b, off + k, none⟩ hl hb).trans (hc k hk')⟩⟩
theorem RdRX.keep (h : RdRX F w A rs) (hz : w.heap.size ≤ w'.heap.size) (hk : ∀ p : Addr, ¬ F p.block → p.block < w.heap.size → w'.cell? p = w.cell? p) (hF : ∀ k, k < w.heap.size → F' k → F k) : RdRX F' w' A rs :=
  ⟨h.1, fun h0 => by
    obtain ⟨b, off, e, hb, hl, hc⟩ := h.2 h0
    refine ⟨b, off, e, by omega, fun q => hl (hF b hb q), fun k hk' => ?_⟩
    obtain ⟨A', c, h1, h2⟩ := hc k hk'
    exact ⟨A', c, (hk ⟨b, off + k, none⟩ hl hb).trans h1, h2.keep hz hk hF⟩⟩
theorem RdBX.below (h : RdBX F w A bs) (hb : Below w.heap.size w w') : RdBX F w' A bs := h.keep hb.size (fun _ _ hp => hb.cell hp) fun _ _ q => q
theorem RdRX.below (h : RdRX F w A rs) (hb : Below w.heap.size w w') : RdRX F w' A rs := h.keep hb.size (fun _ _ hp => hb.cell hp) fun _ _ q => q
theorem chg_cell {F : Nat → Prop} {w w' : World} (hc : Chg F w w') (p : Addr) (hF : ¬ F p.block) (hp : p.block < w.heap.size) : w'.cell? p = w.cell? p := World.cell?_of_block (hc.block p.block hp hF)
theorem RdBX.chg (h : RdBX F w A bs) (hc : Chg F w w') (hF : ∀ k, k < w.heap.size → F' k → F k) : RdBX F' w' A bs := h.keep hc.size (fun p q hp => chg_cell hc p q hp) hF
theorem RdRX.chg (h : RdRX F w A rs) (hc : Chg F w w') (hF : ∀ k, k < w.heap.size → F' k → F k) : RdRX F' w' A rs := h.keep hc.size (fun p q hp => chg_cell hc p q hp) hF
theorem RdBF.rdbx {lo : Nat} (h : RdBF lo w A bs) (hF : ∀ k, k < w.heap.size → lo ≤ k → ¬ F k) : RdBX F w A bs :=
  ⟨h.1, fun h0 => by
    obtain ⟨b, off, e, hb, hl, hc⟩ := h.2 h0
    exact ⟨b, off, e, hb, hF b hb hl, hc⟩⟩
theorem RdF.rdrx {lo : Nat} (h : RdF lo w A rs) (hF : ∀ k, k < w.heap.size → lo ≤ k → ¬ F k) : RdRX F w A rs :=
  ⟨h.1, fun h0 => by
    obtain ⟨b, off, e, hb, hl, hc⟩ := h.2 h0
    refine ⟨b, off, e, hb, hF b hb hl, fun k hk => ?_⟩
    obtain ⟨A', c, h1, h2⟩ := hc k hk
    exact ⟨A', c, h1, h2.rdbx hF⟩⟩
theorem RdRX.at (h : RdRX F w A rs) {k : Nat} (hk : k < rs.length) : ∃ b off A' c, A = some ⟨b, off, none⟩ ∧ w.cell? ⟨b, off + k, none⟩ = some (.slice A' (rs.getD k []).length c) ∧ RdBX F w A' (rs.getD k []) := by
  obtain ⟨b, off, e, _, _, hc⟩ := h.2 (by omega)
  obtain ⟨A', c, h1, h2⟩ := hc k hk
  exact ⟨b, off, A', c, e, h1, h2⟩
end
/-- What a call on a bench leaves of rows that are none of its own. -/
theorem bnew_weak {w : World} {b n : Nat} {H H' : BH} (hm : BNew w b H H' n) : ∀ k, k < w.heap.size → BF b H' n k → BF b H n k := fun k hk e => by
  rcases hm k e with h | h
  · exact h
  · omega
/-- Yes and no, read, and none of a bench's. -/
def RdOX (F : Nat → Prop) (w : World) (A : Option Addr) (lv : List Bool) : Prop :=
  lv.length ≤ 9223372036854775807 ∧ (0 < lv.length → ∃ b off, A = some ⟨b, off, none⟩ ∧ b < w.heap.size ∧ ¬ F b ∧ ∀ k, k < lv.length → w.cell? ⟨b, off + k, none⟩ = some (.bool (lv.getD k false)))
section
variable {F F' : Nat → Prop} {w w' : World} {A : Option Addr} {lv : List Bool}
theorem RdOX.rdo (h : RdOX F w A lv) : RdO w w.heap.size A lv :=
  ⟨h.1, fun h0 => by
    obtain ⟨b, off, e, hb, _, hc⟩ := h.2 h0
    exact ⟨b, off, e, hb, hc⟩⟩
theorem RdOX.keep (h : RdOX F w A lv) (hz : w.heap.size ≤ w'.heap.size) (hk : ∀ p : Addr, ¬ F p.block → p.block < w.heap.size → w'.cell? p = w.cell? p) (hF : ∀ k, k < w.heap.size → F' k → F k) : RdOX F' w' A lv :=
  ⟨h.1, fun h0 => by
    obtain ⟨b, off, e, hb, hl, hc⟩ := h.2 h0
    exact ⟨b, off, e, by omega, fun q => hl (hF b hb q), fun k hk' => (hk ⟨b, off + k, none⟩ hl hb).trans (hc k hk')⟩⟩
theorem RdOX.below (h : RdOX F w A lv) (hb : Below w.heap.size w w') : RdOX F w' A lv := h.keep hb.size (fun _ _ hp => hb.cell hp) fun _ _ q => q
theorem RdOX.chg (h : RdOX F w A lv) (hc : Chg F w w') (hF : ∀ k, k < w.heap.size → F' k → F k) : RdOX F' w' A lv := h.keep hc.size (fun p q hp => chg_cell hc p q hp) hF
end
end Go.Proofs.YtjnemopocmhfkaaDoor
end
section
set_option maxRecDepth 8000
set_option linter.unusedVariables false
set_option linter.unusedSimpArgs false
namespace Go.Proofs.YtjnemopocmhfkaaDoor
open Go.RowKit

structure KX (W w : World) (b : Nat) (H : BH) (N : Bch) (K : List (Nat × Obj)) : Prop where
  bp : BP W w b H N
  kp : ∀ p ∈ K, w.heap[p.1]? = some p.2 ∧ ¬ BF b H N.n p.1 ∧ W.heap.size ≤ p.1
section
variable {W w w' : World} {b : Nat} {H : BH} {N : Bch} {K : List (Nat × Obj)}
theorem KX.below (h : KX W w b H N K) (hb : Below w.heap.size w w') : KX W w' b H N K :=
  ⟨h.bp.grow hb, fun p hp => ⟨(hb.block _ (Array.getElem?_eq_some_iff.1 (h.kp p hp).1).1).trans (h.kp p hp).1, (h.kp p hp).2⟩⟩
theorem KX.add (h : KX W w b H N K) (o : Obj) : KX W (w.alloc o) b H N ((w.heap.size, o) :: K) := by
  refine ⟨h.bp.alloc o, fun p hp => ?_⟩
  rcases List.mem_cons.1 hp with rfl | hp
  · exact ⟨heap_alloc_new _ _, (fun e => by have h9 : w.heap.size < w.heap.size := (h.bp.at'.flt e).2; omega), h.bp.bel.size⟩
  · exact (h.below (below1 w o)).kp p hp
end
theorem fail_n (N : Bch) (d : Int) : (N.fail d).n = N.n := by unfold Bch.fail; split <;> rfl
section
variable {W w : World} {b : Nat} {H : BH} {N : Bch} {K : List (Nat × Obj)} (h : KX W w b H N K)
include h
end
end Go.Proofs.YtjnemopocmhfkaaDoor
end
section
set_option maxRecDepth 8000
set_option linter.unusedVariables false
set_option linter.unusedSimpArgs false
namespace Go.Proofs.YtjnemopocmhfkaaDoor
open Go.RowKit

end Go.Proofs.YtjnemopocmhfkaaDoor
end
