/- Texts put together: PartsOwn, EraseBits, RefCrc. -/
import Derived.Test.YtjnemopocmhfkaaDoorBnab
import Derived.Test.YtjnemopocmhfkaaDoorBnae
import Derived.Test.YtjnemopocmhfkaaDoorBnad
import Derived.Test.YtjnemopocmhfkaaDoorBnac
import Derived.Test.YtjnemopocmhfkaaDoorBnaa
import Derived.Deep.DeepMust
section
namespace Go.Proofs.YtjnemopocmhfkaaDoor
open Go.RowKit

/-- A slice of bytes in a block from lo on. -/
def RdBF (lo : Nat) (w : World) (A : Option Addr) (bs : List UInt8) : Prop :=
  bs.length ≤ 140737488355328 ∧ (0 < bs.length → ∃ b off, A = some ⟨b, off, none⟩ ∧ b < w.heap.size ∧ lo ≤ b ∧ ∀ k, k < bs.length → w.cell? ⟨b, off + k, none⟩ = some (.int .u8 ((bs.getD k 0).toNat : Int)))
def RdF (lo : Nat) (w : World) (A : Option Addr) (rs : List (List UInt8)) : Prop :=
  rs.length ≤ 140737488355328 ∧ (0 < rs.length → ∃ b off, A = some ⟨b, off, none⟩ ∧ b < w.heap.size ∧ lo ≤ b ∧ ∀ k, k < rs.length → ∃ A' c, w.cell? ⟨b, off + k, none⟩ = some (.slice A' (rs.getD k []).length c) ∧ RdBF lo w A' (rs.getD k []))
theorem RdBF.rdb {lo : Nat} {w : World} {A : Option Addr} {bs : List UInt8} (h : RdBF lo w A bs) : RdB w w.heap.size A bs :=
  ⟨h.1, fun h0 => by
    obtain ⟨b, off, e, hb, _, hc⟩ := h.2 h0
    exact ⟨b, off, e, hb, hc⟩⟩
theorem RdF.rdr {lo : Nat} {w : World} {A : Option Addr} {rs : List (List UInt8)} (h : RdF lo w A rs) : RdR w w.heap.size A rs :=
  ⟨h.1, fun h0 => by
    obtain ⟨b, off, e, hb, _, hc⟩ := h.2 h0
    refine ⟨b, off, e, hb, fun k hk => ?_⟩
    obtain ⟨A', c, h1, h2⟩ := hc k hk
    exact ⟨A', c, h1, h2.rdb⟩⟩
theorem RdBF.keep {lo : Nat} {w w' : World} {A : Option Addr} {bs : List UInt8} (h : RdBF lo w A bs) (hz : w.heap.size ≤ w'.heap.size) (hk : ∀ p : Addr, lo ≤ p.block → p.block < w.heap.size → w'.cell? p = w.cell? p) : RdBF lo w' A bs :=
  ⟨h.1, fun h0 => by
    obtain ⟨b, off, e, hb, hl, hc⟩ := h.2 h0
    exact ⟨b, off, e, by omega, hl, fun k hk' => (hk ⟨b, off + k, none⟩ hl hb).trans (hc k hk')⟩⟩
theorem RdBF.le {lo lo' : Nat} {w : World} {A : Option Addr} {bs : List UInt8} (h : RdBF lo w A bs) (hl : lo' ≤ lo) : RdBF lo' w A bs :=
  ⟨h.1, fun h0 => by
    obtain ⟨b, off, e, hb, hl2, hc⟩ := h.2 h0
    exact ⟨b, off, e, hb, by omega, hc⟩⟩
/-- Values that read as rows, none of them in block ob, all from lo on. -/
def RowsY (w : World) (lo : Nat) (ob : Option Nat) (xs : List Value) (rs : List (List UInt8)) : Prop :=
  xs.length = rs.length ∧ ∀ k, k < rs.length → ∃ A c, xs[k]? = some (.slice A (rs.getD k []).length c) ∧ RdBF lo w A (rs.getD k []) ∧ (0 < (rs.getD k []).length → ∀ a, A = some a → some a.block ≠ ob)
theorem RowsY.nil (w : World) (lo : Nat) (ob : Option Nat) : RowsY w lo ob [] [] := ⟨rfl, fun k hk => by simp at hk⟩
theorem RowsY.below {w w' : World} {lo : Nat} {ob : Option Nat} {xs : List Value} {rs : List (List UInt8)} (h : RowsY w lo ob xs rs) (hb : Below w.heap.size w w') : RowsY w' lo ob xs rs :=
  ⟨h.1, fun k hk => by
    obtain ⟨A, c, h1, h2, h3⟩ := h.2 k hk
    exact ⟨A, c, h1, h2.keep hb.size fun _ _ hp => hb.cell hp, h3⟩⟩
theorem RowsY.grown {w w' : World} {lo : Nat} {ob ob' : Option Nat} {xs : List Value} {rs : List (List UInt8)} (h : RowsY w lo ob xs rs) (hg : w.grownBy w' ob) (ho : ob' = ob ∨ ob' = some w.heap.size) : RowsY w' lo ob' xs rs :=
  ⟨h.1, fun k hk => by
    obtain ⟨A, c, h1, h2, h3⟩ := h.2 k hk
    refine ⟨A, c, h1, ⟨h2.1, fun h0 => ?_⟩, fun h0 a ha => ?_⟩
    · obtain ⟨b, off, e, hb, hl, hc⟩ := h2.2 h0
      have hne := h3 h0 _ e
      refine ⟨b, off, e, by have := hg.size; omega, hl, fun j hj => ?_⟩
      rw [← hc j hj]
      exact World.cell?_of_block (w := w) (hg.block b hb hne)
    · rcases ho with rfl | rfl
      · exact h3 h0 a ha
      · obtain ⟨b, off, e, hb, hl, hc⟩ := h2.2 h0
        rw [ha] at e
        injection e with e
        subst e
        intro e
        injection e with e
        simp at e
        omega⟩
theorem RowsY.snoc {w : World} {lo : Nat} {ob : Option Nat} {xs : List Value} {rs : List (List UInt8)} (h : RowsY w lo ob xs rs) {A : Option Addr} {c : Nat} {bs : List UInt8} (hr : RdBF lo w A bs) (hne : 0 < bs.length → ∀ a, A = some a → some a.block ≠ ob) : RowsY w lo ob (xs ++ [.slice A bs.length c]) (rs ++ [bs]) :=
  ⟨by simp [h.1], fun k hk => by
    by_cases hk2 : k < rs.length
    · obtain ⟨A', c', h1, h2, h3⟩ := h.2 k hk2
      have e : (rs ++ [bs]).getD k [] = rs.getD k [] := by simp [List.getElem?_append_left hk2]
      rw [e]
      exact ⟨A', c', by rw [List.getElem?_append_left (by rw [h.1]; exact hk2)]; exact h1, h2, h3⟩
    · have hk3 : k = rs.length := by simp at hk; omega
      subst hk3
      have e : (rs ++ [bs]).getD rs.length [] = bs := by simp
      rw [e]
      exact ⟨A, c, by rw [← h.1]; simp, hr, hne⟩⟩
/-- An own row of slices, read as rows, with its room. -/
theorem rdf_own {w : World} {base : Nat} {e : TypeId} {v : Value} {n : Nat} {xs : List Value} {rs : List (List UInt8)} {ob : Option Nat} (h : w.ownsRow base e 1 v n xs) (hl : rs.length ≤ 140737488355328) (hx : RowsY w base ob xs rs) :
    ∃ A cap, v = .slice A rs.length cap ∧ rs.length ≤ cap ∧ RdF base w A rs := by
  have hn : n = rs.length := by have := h.1; have := hx.1; omega
  subst hn
  rcases h.2 with ⟨rfl, h0⟩ | ⟨g, cap, cur, rfl, hb, hg, h3, _, _, htk⟩
  · exact ⟨none, 0, by rw [h0], by omega, hl, fun h => by omega⟩
  · refine ⟨_, cap, rfl, h3, hl, fun _ => ⟨g, 0, rfl, (Array.getElem?_eq_some_iff.1 hg).1, hb, fun k hk => ?_⟩⟩
    obtain ⟨A, c, h1, h2, _⟩ := hx.2 k hk
    refine ⟨A, c, ?_, h2⟩
    rw [← htk, List.getElem?_take, if_pos (by omega), Array.getElem?_toList] at h1
    rw [Nat.zero_add, cell_of_row w g k cur e (0, 0) hg]
    exact h1
theorem OwB.rdbf {e : TypeId} {w : World} {B : Nat} {A : Option Addr} {n c : Nat} {bs : List UInt8} (h : OwB e w B (.slice A n c) bs) : RdBF B w A bs :=
  ⟨h.2, fun h0 => by
    obtain ⟨b, off, e, hb, hc⟩ := h.rdS.1.2 h0
    exact ⟨b, off, e, hb, by have := h.addr_ob h0 _ e; simpa using this, hc⟩⟩
end Go.Proofs.YtjnemopocmhfkaaDoor
end
section
namespace Go.Proofs.YtjnemopocmhfkaaDoor
open Go.RowKit

/-- An own row of rows: its value, what it holds, all from base on. -/
def OwR (w : World) (base g n cap : Nat) (rs : List (List UInt8)) : Prop :=
  rs.length = n ∧ n ≤ cap ∧ base ≤ g ∧ ∃ xs, w.ownsRow base 48 1 (.slice (some ⟨g, 0, none⟩) n cap) n xs ∧ RowsY w base (some g) xs rs
section
variable {w w' : World} {base g n cap : Nat} {rs : List (List UInt8)}
theorem OwR.rdf (h : OwR w base g n cap rs) (hl : n ≤ 140737488355328) : RdF base w (some ⟨g, 0, none⟩) rs := by
  obtain ⟨h0, _, _, xs, h1, h2⟩ := h
  subst h0
  obtain ⟨A, c, hv, _, hr⟩ := rdf_own h1 hl h2
  injection hv with h3 _ _
  rw [h3]
  exact hr
theorem OwR.rdr (h : OwR w base g n cap rs) (hl : n ≤ 140737488355328) : RdR w w.heap.size (some ⟨g, 0, none⟩) rs := (h.rdf hl).rdr
end
end Go.Proofs.YtjnemopocmhfkaaDoor
end
section
set_option maxRecDepth 8000
namespace Go.Proofs.YtjnemopocmhfkaaDoor
open Go.RowKit

end Go.Proofs.YtjnemopocmhfkaaDoor
end
