/- A row of sectors of one's own, each in a block of its own. -/
import Derived.Test.YtoomdgidpplpfaaDoorLbak
import Derived.Test.YtoomdgidpplpfaaDoorLbag
import Derived.Laws.OwnMore
set_option maxRecDepth 8000
set_option linter.unusedVariables false
set_option linter.unusedSimpArgs false
namespace Go.Proofs.YtoomdgidpplpfaaDoor
open Go.RowKit

def rwv (bk cp : Nat → Nat) (k : Nat) : Value := .slice (some ⟨bk k, 0, none⟩) 32 (cp k)
def rwvs (bk cp : Nat → Nat) (n : Nat) : List Value := (List.range n).map (rwv bk cp)
theorem rwvs_len (bk cp : Nat → Nat) (n : Nat) : (rwvs bk cp n).length = n := by simp [rwvs]
theorem rwvs_get {bk cp : Nat → Nat} {n k : Nat} (hk : k < n) : (rwvs bk cp n)[k]? = some (rwv bk cp k) := by simp [rwvs, hk]
structure Rw (lo : Nat) (W : World) (g cap n : Nat) (bk cp : Nat → Nat) (rs : List (List UInt8)) : Prop where
  row : W.ownsRow lo 41 1 (.slice (some ⟨g, 0, none⟩) n cap) n (rwvs bk cp n)
  nn : rs.length = n
  n9 : n ≤ 9
  len : ∀ k, k < n → (rs.getD k []).length = 32
  own : ∀ k, k < n → OwB 5 W lo (.slice (some ⟨bk k, 0, none⟩) 32 (cp k)) (rs.getD k [])
  ne : ∀ k, k < n → bk k ≠ g
  inj : ∀ j k, j < n → k < n → bk j = bk k → j = k
section
variable {lo : Nat} {W W' : World} {g cap n : Nat} {bk cp : Nat → Nat} {rs : List (List UInt8)}
theorem Rw.glt (h : Rw lo W g cap n bk cp rs) : lo ≤ g ∧ g < W.heap.size := h.row.lt g rfl
theorem Rw.blt (h : Rw lo W g cap n bk cp rs) (k : Nat) (hk : k < n) : lo ≤ bk k ∧ bk k < W.heap.size := (h.own k hk).lt _ rfl
theorem Rw.room (h : Rw lo W g cap n bk cp rs) : n ≤ cap := by
  obtain ⟨A, c, e, hc, _⟩ := rx_form h.row
  injection e with _ _ e
  omega
theorem Rw.ccap (h : Rw lo W g cap n bk cp rs) (k : Nat) (hk : k < n) : 32 ≤ cp k := (h.own k hk).rdS.2.2
theorem Rw.cell (h : Rw lo W g cap n bk cp rs) (k : Nat) (hk : k < n) : W.cell? ⟨g, k, none⟩ = some (.slice (some ⟨bk k, 0, none⟩) 32 (cp k)) := by
  rw [rx_cell_at h.row k (by rw [rwvs_len]; exact hk), rwvs_get hk]; rfl
theorem Rw.fz (h : Rw lo W g cap n bk cp rs) (k : Nat) : W.frozen? ⟨g, k, none⟩ = false := h.row.frozenAt k
theorem Rw.byte (h : Rw lo W g cap n bk cp rs) (k : Nat) (hk : k < n) (i : Nat) (hi : i < 32) : W.cell? ⟨bk k, i, none⟩ = some (.int .u8 (((rs.getD k []).getD i 0).toNat : Int)) ∧ W.frozen? ⟨bk k, i, none⟩ = false := (h.own k hk).cell (h.len k hk) i (by omega)
theorem Rw.rd (h : Rw lo W g cap n bk cp rs) (k : Nat) (hk : k < n) : RdB W W.heap.size (some ⟨bk k, 0, none⟩) (rs.getD k []) := (h.own k hk).rdS.1
theorem Rw.grown {row : Option Nat} (h : Rw lo W g cap n bk cp rs) (hg : W.grownBy W' row) (h1 : row ≠ some g) (h2 : ∀ k, k < n → row ≠ some (bk k)) : Rw lo W' g cap n bk cp rs :=
  ⟨h.row.kept hg (.inr fun e => h1 e.symm), h.nn, h.n9, h.len, fun k hk => (h.own k hk).grown hg (.inr fun e => h2 k hk e.symm), h.ne, h.inj⟩
theorem Rw.below (h : Rw lo W g cap n bk cp rs) (hb : Below W.heap.size W W') : Rw lo W' g cap n bk cp rs := h.grown (grown_none hb) (by simp) (by simp)
theorem Rw.drew (h : Rw lo W g cap n bk cp rs) : Rw lo W.drew g cap n bk cp rs := h.below (Below.refl _ _).drew
theorem Rw.le {lo' : Nat} (h : Rw lo W g cap n bk cp rs) (hl : lo' ≤ lo) : Rw lo' W g cap n bk cp rs :=
  ⟨⟨h.row.1, by
    rcases h.row.2 with h1 | ⟨g', c', cur, h1, h2, r⟩
    · exact .inl h1
    · exact .inr ⟨g', c', cur, h1, Nat.le_trans hl h2, r⟩⟩, h.nn, h.n9, h.len, fun k hk => (h.own k hk).le hl, h.ne, h.inj⟩
theorem rs_set_get {rs : List (List UInt8)} {k j : Nat} {b : List UInt8} (hk : k < rs.length) : (rs.set k b).getD j [] = if k = j then b else rs.getD j [] := by
  simp only [List.getD_eq_getElem?_getD, List.getElem?_set]
  split
  · subst_vars; simp [hk]
  · rfl
/-- One sector written. -/
theorem Rw.set (h : Rw lo W g cap n bk cp rs) (k : Nat) (hk : k < n) {b : List UInt8} (ho : OwB 5 W' lo (.slice (some ⟨bk k, 0, none⟩) 32 (cp k)) b) (hb : b.length = 32) (hg : W.grownBy W' (some (bk k))) : Rw lo W' g cap n bk cp (rs.set k b) := by
  have hkl : k < rs.length := by rw [h.nn]; exact hk
  refine ⟨h.row.kept hg (.inr fun e => h.ne k hk (by injection e with e; exact e.symm)), by rw [List.length_set]; exact h.nn, h.n9, fun j hj => ?_, fun j hj => ?_, h.ne, h.inj⟩
  · rw [rs_set_get hkl]; split
    · exact hb
    · exact h.len j hj
  · rw [rs_set_get hkl]; split
    · subst_vars; exact ho
    · next hne => exact (h.own j hj).grown hg (.inr fun e => hne (by
        have e2 : bk j = bk k := by injection e
        exact (h.inj j k hj hk e2).symm))
theorem Rw.put (h : Rw lo W g cap n bk cp rs) (k : Nat) (hk : k < n) (i : Nat) (x : UInt8) : Rw lo (W.setCell ⟨bk k, i, none⟩ (.int .u8 (x.toNat : Int))) g cap n bk cp (rs.set k ((rs.getD k []).set i x)) ∧ W.grownBy (W.setCell ⟨bk k, i, none⟩ (.int .u8 (x.toNat : Int))) (some (bk k)) := by
  obtain ⟨h1, h2⟩ := (h.own k hk).set (h.len k hk) i x
  exact ⟨h.set k hk h1 (by rw [List.length_set]; exact h.len k hk) h2, h2⟩
/-- Another sector in a place of the row. -/
theorem Rw.swap (h : Rw lo W g cap n bk cp rs) (k : Nat) (hk : k < n) {q c : Nat} {b : List UInt8} (ho : OwB 5 W lo (.slice (some ⟨q, 0, none⟩) 32 c) b) (hb : b.length = 32) (hq : q ≠ g) (hne : ∀ j, j < n → q ≠ bk j) :
    Rw lo (W.setCell ⟨g, k, none⟩ (.slice (some ⟨q, 0, none⟩) 32 c)) g cap n (fun j => if j = k then q else bk j) (fun j => if j = k then c else cp j) (rs.set k b) ∧ W.grownBy (W.setCell ⟨g, k, none⟩ (.slice (some ⟨q, 0, none⟩) 32 c)) (some g) := by
  have hkl : k < rs.length := by rw [h.nn]; exact hk
  obtain ⟨h1, h2⟩ := h.row.stored k (.slice (some ⟨q, 0, none⟩) 32 c)
  have e : (rwvs bk cp n).set k (.slice (some ⟨q, 0, none⟩) 32 c) = rwvs (fun j => if j = k then q else bk j) (fun j => if j = k then c else cp j) n := by
    apply List.ext_getElem (by simp [rwvs])
    intro j h3 h4
    simp only [rwvs, List.getElem_set, List.getElem_map, List.getElem_range]
    by_cases e : k = j
    · subst e; simp [rwv]
    · rw [if_neg e]; unfold rwv; dsimp only; rw [if_neg (Ne.symm e), if_neg (Ne.symm e)]
  rw [e] at h1
  refine ⟨⟨h1, by rw [List.length_set]; exact h.nn, h.n9, fun j hj => ?_, fun j hj => ?_, fun j hj => ?_, fun i j hi hj hij => ?_⟩, h2⟩
  · rw [rs_set_get hkl]; split
    · exact hb
    · exact h.len j hj
  · try dsimp only
    rw [rs_set_get hkl]
    by_cases e : k = j
    · subst e; rw [if_pos rfl, if_pos rfl, if_pos rfl]
      exact ho.grown h2 (.inr fun e => hq (by injection e))
    · rw [if_neg e, if_neg (Ne.symm e), if_neg (Ne.symm e)]
      exact (h.own j hj).grown h2 (.inr fun e => h.ne j hj (by injection e))
  · try dsimp only
    split
    · exact hq
    · exact h.ne j hj
  · try dsimp only at hij
    by_cases e1 : i = k
    · by_cases e2 : j = k
      · omega
      · rw [if_pos e1, if_neg e2] at hij; exact absurd hij (hne j hj)
    · by_cases e2 : j = k
      · rw [if_neg e1, if_pos e2] at hij; exact absurd hij.symm (hne i hi)
      · rw [if_neg e1, if_neg e2] at hij; exact h.inj i j hi hj hij
theorem Rw.rdc (h : Rw lo W g cap n bk cp rs) : RdC W W.heap.size (some ⟨g, 0, none⟩) rs :=
  ⟨by have := h.nn; have := h.n9; omega, fun _ => ⟨g, 0, rfl, h.glt.2, fun k hk => by
    have hk' : k < n := by rw [← h.nn]; exact hk
    exact ⟨_, cp k, by rw [Nat.zero_add, h.len k hk']; exact h.cell k hk', by rw [h.len k hk']; exact h.ccap k hk', h.rd k hk'⟩⟩⟩
theorem Rw.rdr1 (h : Rw lo W g cap n bk cp rs) : RdR W W.heap.size (some ⟨g, 1, none⟩) (rs.drop 1) :=
  ⟨by have := h.nn; have := h.n9; simp; omega, fun _ => ⟨g, 1, rfl, h.glt.2, fun k hk => by
    have hk' : 1 + k < n := by rw [← h.nn]; simp at hk; omega
    have e : (rs.drop 1).getD k [] = rs.getD (1 + k) [] := by simp [List.getD_eq_getElem?_getD, Nat.add_comm]
    rw [e]
    exact ⟨_, cp (1 + k), by rw [h.len _ hk']; exact h.cell _ hk', h.rd _ hk'⟩⟩⟩
theorem Rw.rdv (h : Rw lo W g cap n bk cp rs) : RdV W W.heap.size (some ⟨g, 0, none⟩) (rwvs bk cp n) := fun _ => ⟨g, 0, rfl, h.glt.2, fun k hk => by rw [Nat.zero_add]; exact rx_cell_at h.row k hk⟩
theorem rwvs_one (bk cp : Nat → Nat) (n : Nat) : ∀ u ∈ rwvs bk cp n, u.oneCell' = true := fun u hu => by
  simp only [rwvs, List.mem_map] at hu
  obtain ⟨k, _, rfl⟩ := hu
  rfl
end
/-- Sectors of zeros, made one after the other. -/
structure Mk (lo : Nat) (V : World) (bs : List Nat) : Prop where
  own : ∀ b ∈ bs, OwB 5 V lo (.slice (some ⟨b, 0, none⟩) 32 32) z32
  nd : bs.Nodup
  lo : lo ≤ V.heap.size
theorem Mk.nil (V : World) (lo : Nat) (h : lo ≤ V.heap.size) : Mk lo V [] := ⟨fun b hb => by simp at hb, by simp, h⟩
theorem Mk.push {lo : Nat} {V : World} {bs : List Nat} (h : Mk lo V bs) : Mk lo (V.alloc (.cells (zcells 32) 5)) (V.heap.size :: bs) := by
  refine ⟨fun b hb => ?_, List.nodup_cons.2 ⟨fun hm => ?_, h.nd⟩, by have := h.lo; simp; omega⟩
  · rcases List.mem_cons.1 hb with rfl | hb
    · exact (own_make 5 V 32 (by omega)).le h.lo
    · exact (h.own b hb).below (below1 V _)
  · have := ((h.own _ hm).lt V.heap.size rfl).2; omega
/-- A row of them. -/
theorem Mk.row {lo : Nat} {V : World} {bs : List Nat} (h : Mk lo V bs) (l : List Nat) (hl : l.length ≤ 9) (hs : ∀ b ∈ l, b ∈ bs) (hn : l.Nodup) :
    Rw lo (V.alloc (.cells (l.map fun b => Value.slice (some ⟨b, 0, none⟩) 32 32).toArray 41)) V.heap.size l.length l.length (fun k => l.getD k 0) (fun _ => 32) (List.replicate l.length z32) := by
  have hm : ∀ k, k < l.length → l.getD k 0 ∈ l := fun k hk => by
    rw [List.getD_eq_getElem?_getD, List.getElem?_eq_getElem hk]; exact List.getElem_mem hk
  have hr := World.ownsRow_lit (base := lo) (e := 41) (size := 1) V (l.map fun b => Value.slice (some ⟨b, 0, none⟩) 32 32).toArray l.length h.lo (by unfold maxLen; omega) (by simp)
  have e : (l.map fun b => Value.slice (some ⟨b, 0, none⟩) 32 32).toArray.toList = rwvs (fun k => l.getD k 0) (fun _ => 32) l.length := by
    apply List.ext_getElem (by simp [rwvs])
    intro k h1 h2
    have hk : k < l.length := by simpa using h1
    simp [rwvs, rwv, List.getD_eq_getElem?_getD, hk]
  rw [e] at hr
  have hz : ∀ k, k < l.length → (List.replicate l.length z32).getD k [] = z32 := fun k hk => by simp [List.getD_eq_getElem?_getD, hk]
  refine ⟨hr, by simp, hl, fun k hk => by rw [hz k hk]; rfl, fun k hk => ?_, fun k hk => ?_, fun j k hj hk e => ?_⟩
  · rw [hz k hk]; exact (h.own _ (hs _ (hm k hk))).below (below1 V _)
  · have := ((h.own _ (hs _ (hm k hk))).lt (l.getD k 0) rfl).2
    omega
  · try dsimp only at e
    rw [List.getD_eq_getElem?_getD, List.getD_eq_getElem?_getD, List.getElem?_eq_getElem hj, List.getElem?_eq_getElem hk] at e
    have hp := List.pairwise_iff_getElem.1 hn
    rcases Nat.lt_trichotomy j k with h1 | h1 | h1
    · exact absurd e (hp j k hj hk h1)
    · exact h1
    · exact absurd e.symm (hp k j hk hj h1)
end Go.Proofs.YtoomdgidpplpfaaDoor
