/- Texts put together: DskLeft, Off, DskDelete, DskDamage, Rq. -/
import Derived.Test.YtjnemopocmhfkaaDoorBbag
import Derived.Test.YtjnemopocmhfkaaDoorBbab
import Derived.Lib.SliceRun
import Derived.Test.YtjnemopocmhfkaaDoorBbah
import Derived.Test.YtjnemopocmhfkaaDoorBbad
import Derived.Laws.OwnMore
section
namespace Go.Proofs.YtjnemopocmhfkaaDoor
open Go.RowKit

end Go.Proofs.YtjnemopocmhfkaaDoor
end
section
namespace Go.Proofs.YtjnemopocmhfkaaDoor
open Go.RowKit

def Off (v : Value) (b : Nat) (pv : Value) : Prop := ∀ k, v.ownBlock = some k → ¬ DF b pv k
/-- Two disks beside one another. -/
def Apart (b : Nat) (pv : Value) (b2 : Nat) (pv2 : Value) : Prop := ∀ k, DF b pv k → ¬ DF b2 pv2 k
theorem DskAt.apart {w w' : World} {B b b2 : Nat} {pv pv2 : Value} {D : Dsk} (hd : DskAt w B b pv D) (h : Apart b pv b2 pv2) (hc : Chg (DF b2 pv2) w w') : DskAt w' B b pv D :=
  hd.chg hc (fun e => h b (.inl rfl) e) fun k hk e => h k (.inr hk) e
end Go.Proofs.YtjnemopocmhfkaaDoor
end
section
set_option maxRecDepth 8000
namespace Go.Proofs.YtjnemopocmhfkaaDoor
open Go.RowKit

section
variable {P : Program}
end
end Go.Proofs.YtjnemopocmhfkaaDoor
end
section
set_option maxRecDepth 8000
namespace Go.Proofs.YtjnemopocmhfkaaDoor
open Go.RowKit

end Go.Proofs.YtjnemopocmhfkaaDoor
end
section
set_option maxRecDepth 8000
set_option linter.unusedVariables false
set_option linter.unusedSimpArgs false
namespace Go.Proofs.YtjnemopocmhfkaaDoor
open Go.RowKit

structure Rq (lo : Nat) (W : World) (g cap n : Nat) (xs : List Value) (rs : List (List UInt8)) : Prop where
  row : W.ownsRow lo 48 1 (.slice (some ⟨g, 0, none⟩) n cap) n xs
  nn : rs.length = n
  own : ∀ (k : Nat) (v : Value), xs[k]? = some v → OwB 5 W lo v (rs.getD k [])
  ne : ∀ (k : Nat) (v : Value), xs[k]? = some v → v.ownBlock ≠ some g
  inj : ∀ (j k : Nat) (v u : Value), xs[j]? = some v → xs[k]? = some u → v.ownBlock = u.ownBlock → v.ownBlock ≠ none → j = k
section
variable {lo : Nat} {W W' : World} {g cap n : Nat} {xs : List Value} {rs : List (List UInt8)}
theorem Rq.len (h : Rq lo W g cap n xs rs) : xs.length = n := by have := h.row.1; omega
theorem Rq.glt (h : Rq lo W g cap n xs rs) : lo ≤ g ∧ g < W.heap.size := h.row.lt g rfl
theorem Rq.room (h : Rq lo W g cap n xs rs) : n ≤ cap ∧ cap ≤ maxLen := by
  rcases h.row.2 with ⟨h1, _⟩ | ⟨g', cap', cur, h1, _, _, h3, h4, _⟩
  · cases h1
  · injection h1 with _ _ h1; omega
theorem Rq.fz (h : Rq lo W g cap n xs rs) (k : Nat) : W.frozen? ⟨g, k, none⟩ = false := h.row.frozenAt k
theorem Rq.at (h : Rq lo W g cap n xs rs) (k : Nat) (hk : k < n) : ∃ A c, xs[k]? = some (.slice A (rs.getD k []).length c) ∧ W.cell? ⟨g, k, none⟩ = some (.slice A (rs.getD k []).length c) ∧ OwB 5 W lo (.slice A (rs.getD k []).length c) (rs.getD k []) := by
  obtain ⟨v, hv⟩ : ∃ v, xs[k]? = some v := ⟨_, List.getElem?_eq_getElem (by rw [h.len]; exact hk)⟩
  have ho := h.own k v hv
  obtain ⟨A, c, rfl, _, _⟩ := ho.rd
  exact ⟨A, c, hv, by rw [h.row.cellAt k (by omega)]; exact hv, ho⟩
theorem Rq.grown {row : Option Nat} (h : Rq lo W g cap n xs rs) (hg : W.grownBy W' row) (h1 : row ≠ some g) (h2 : ∀ (k : Nat) (v : Value), xs[k]? = some v → v.ownBlock = none ∨ v.ownBlock ≠ row) : Rq lo W' g cap n xs rs :=
  ⟨h.row.kept hg (.inr fun e => h1 e.symm), h.nn, fun k v hv => (h.own k v hv).grown hg (h2 k v hv), h.ne, h.inj⟩
theorem Rq.below (h : Rq lo W g cap n xs rs) (hb : Below W.heap.size W W') : Rq lo W' g cap n xs rs := h.grown (grown_none hb) (by simp) (fun k v _ => by cases v.ownBlock <;> simp)
theorem Rq.le {lo' : Nat} (h : Rq lo W g cap n xs rs) (hl : lo' ≤ lo) : Rq lo' W g cap n xs rs :=
  ⟨⟨h.row.1, by
    rcases h.row.2 with h1 | ⟨g', c', cur, h1, h2, r⟩
    · exact .inl h1
    · exact .inr ⟨g', c', cur, h1, Nat.le_trans hl h2, r⟩⟩, h.nn, fun k v hv => (h.own k v hv).le hl, h.ne, h.inj⟩
theorem rq_set_get {rs : List (List UInt8)} {k j : Nat} {b : List UInt8} (hk : k < rs.length) : (rs.set k b).getD j [] = if k = j then b else rs.getD j [] := by
  simp only [List.getD_eq_getElem?_getD, List.getElem?_set]
  split
  · subst_vars; simp [hk]
  · rfl
/-- A place of the row written: with nothing, or with what lies in no block of these. -/
theorem Rq.set (h : Rq lo W g cap n xs rs) (k : Nat) (hk : k < n) {v : Value} {b : List UInt8} (ho : OwB 5 W lo v b) (hg : v.ownBlock ≠ some g) (hne : ∀ (j : Nat) (u : Value), xs[j]? = some u → v.ownBlock = none ∨ v.ownBlock ≠ u.ownBlock) :
    Rq lo (W.setCell ⟨g, k, none⟩ v) g cap n (xs.set k v) (rs.set k b) ∧ W.grownBy (W.setCell ⟨g, k, none⟩ v) (some g) := by
  have hkl : k < rs.length := by rw [h.nn]; exact hk
  have hkx : k < xs.length := by rw [h.len]; exact hk
  obtain ⟨h1, h2⟩ := h.row.stored k v
  have hold : ∀ (j : Nat) (u : Value), (xs.set k v)[j]? = some u → (k = j ∧ u = v) ∨ (k ≠ j ∧ xs[j]? = some u) := fun j u hu => by
    by_cases e : k = j
    · subst e
      rw [List.getElem?_set_self hkx] at hu
      injection hu with hu
      exact .inl ⟨rfl, hu.symm⟩
    · rw [List.getElem?_set_ne e] at hu
      exact .inr ⟨e, hu⟩
  refine ⟨⟨h1, by rw [List.length_set]; exact h.nn, fun j u hu => ?_, fun j u hu => ?_, fun i j u w hu hw e hn => ?_⟩, h2⟩
  · rw [rq_set_get hkl]
    rcases hold j u hu with ⟨rfl, rfl⟩ | ⟨e, hu⟩
    · rw [if_pos rfl]; exact ho.grown h2 (.inr hg)
    · rw [if_neg e]; exact (h.own j u hu).grown h2 (.inr (h.ne j u hu))
  · rcases hold j u hu with ⟨rfl, rfl⟩ | ⟨e, hu⟩
    · exact hg
    · exact h.ne j u hu
  · rcases hold i u hu with ⟨rfl, rfl⟩ | ⟨e1, hu2⟩
    · rcases hold j w hw with ⟨rfl, rfl⟩ | ⟨e2, hw2⟩
      · rfl
      · rcases hne j w hw2 with h3 | h3
        · exact absurd h3 hn
        · exact absurd e h3
    · rcases hold j w hw with ⟨rfl, rfl⟩ | ⟨e2, hw2⟩
      · rcases hne i u hu2 with h3 | h3
        · exact absurd (e.trans h3) hn
        · exact absurd e.symm h3
      · exact h.inj i j u w hu2 hw2 e hn
/-- With what was made since. -/
theorem Rq.step (h : Rq lo W g cap n xs rs) (hb : Below W.heap.size W W') (k : Nat) (hk : k < n) {v : Value} {b : List UInt8} (ho : OwB 5 W' W.heap.size v b) :
    Rq lo (W'.setCell ⟨g, k, none⟩ v) g cap n (xs.set k v) (rs.set k b) ∧ W'.grownBy (W'.setCell ⟨g, k, none⟩ v) (some g) := by
  have hg := h.glt
  refine (h.below hb).set k hk (ho.le (by omega)) (fun e => ?_) (fun j u hu => ?_)
  · have := (ho.lt g e).1; omega
  · rcases hv : v.ownBlock with _ | q
    · exact .inl rfl
    · refine .inr fun e => ?_
      have h1 := (ho.lt q hv).1
      have h2 := ((h.own j u hu).lt q e.symm).2
      omega
theorem Rq.rowsY (h : Rq lo W g cap n xs rs) : RowsY W lo (some g) xs rs :=
  ⟨by rw [h.len, h.nn], fun k hk => by
    obtain ⟨A, c, h1, _, h3⟩ := h.at k (by rw [← h.nn]; exact hk)
    refine ⟨A, c, h1, h3.rdbf, fun hp a ha => ?_⟩
    obtain ⟨q, c2, e, _, _⟩ := h3.pos hp
    injection e with e _ _
    have := h.ne k _ h1
    rw [e] at this ha
    injection ha with ha
    subst ha
    exact this⟩
theorem Rq.owr (h : Rq lo W g cap n xs rs) : OwR W lo g n cap rs := ⟨h.nn, h.room.1, h.glt.1, xs, h.row, h.rowsY⟩
theorem Rq.rdr (h : Rq lo W g cap n xs rs) (hn : n ≤ 1000000) : RdR W W.heap.size (some ⟨g, 0, none⟩) rs := h.owr.rdr (by omega)
/-- A new row of nothing. -/
theorem rq_new (w : World) (n : Nat) (hn : n ≤ 1000000) : Rq w.heap.size (w.alloc (.cells (madeCells #[.slice none 0 0] n) 48)) w.heap.size n n (List.replicate n (.slice none 0 0)) (List.replicate n []) := by
  have hr := World.ownsRow_lit (base := w.heap.size) (e := 48) (size := 1) w (madeCells #[.slice none 0 0] n) n (Nat.le_refl _) (by unfold maxLen; omega) (by simp [size_madeCells])
  rw [toList_madeCells_one] at hr
  have hnil : ∀ (k : Nat) (v : Value), (List.replicate n (Value.slice none 0 0))[k]? = some v → v = .slice none 0 0 := fun k v hv => by
    rw [List.getElem?_replicate] at hv
    split at hv
    · injection hv with hv; exact hv.symm
    · cases hv
  have hget : ∀ k : Nat, (List.replicate n ([] : List UInt8)).getD k [] = [] := fun k => by
    rw [List.getD_eq_getElem?_getD, List.getElem?_replicate]; split <;> rfl
  refine ⟨hr, by simp, fun k v hv => ?_, fun k v hv => ?_, fun j k v u hv hu e hn => ?_⟩
  · rw [hnil k v hv, hget]; exact OwB.nil _ _ _
  · rw [hnil k v hv]; simp [Value.ownBlock]
  · rw [hnil j v hv] at hn; exact absurd rfl hn
end
end Go.Proofs.YtjnemopocmhfkaaDoor
end
