/- Texts put together: DskLeft, Off, DskDelete, DskDamage, Rq, PlaySecs, SameS, SecsQ. -/
import Derived.Test.YtldfoadildaljaaWwaj
import Derived.Test.YtldfoadildaljaaWwac
import Derived.Lib.SliceRun
import Derived.Test.YtldfoadildaljaaWwal
import Derived.Test.YtldfoadildaljaaWwag
import Derived.Laws.OwnMore
import Derived.Test.YtldfoadildaljaaWwaa
section
namespace Go.Proofs.Ytldfoadildaljaa
open Go.RowKit

end Go.Proofs.Ytldfoadildaljaa
end
section
namespace Go.Proofs.Ytldfoadildaljaa
open Go.RowKit

def Off (v : Value) (b : Nat) (pv : Value) : Prop := ∀ k, v.ownBlock = some k → ¬ DF b pv k
/-- Two disks beside one another. -/
def Apart (b : Nat) (pv : Value) (b2 : Nat) (pv2 : Value) : Prop := ∀ k, DF b pv k → ¬ DF b2 pv2 k
theorem DskAt.apart {w w' : World} {B b b2 : Nat} {pv pv2 : Value} {D : Dsk} (hd : DskAt w B b pv D) (h : Apart b pv b2 pv2) (hc : Chg (DF b2 pv2) w w') : DskAt w' B b pv D :=
  hd.chg hc (fun e => h b (.inl rfl) e) fun k hk e => h k (.inr hk) e
end Go.Proofs.Ytldfoadildaljaa
end
section
set_option maxRecDepth 8000
namespace Go.Proofs.Ytldfoadildaljaa
open Go.RowKit

section
variable {P : Program}
end
end Go.Proofs.Ytldfoadildaljaa
end
section
set_option maxRecDepth 8000
namespace Go.Proofs.Ytldfoadildaljaa
open Go.RowKit

end Go.Proofs.Ytldfoadildaljaa
end
section
set_option maxRecDepth 8000
set_option linter.unusedVariables false
set_option linter.unusedSimpArgs false
namespace Go.Proofs.Ytldfoadildaljaa
open Go.RowKit

structure Rq (lo : Nat) (W : World) (g cap n : Nat) (xs : List Value) (rs : List (List UInt8)) : Prop where
  row : W.ownsRow lo 54 1 (.slice (some ⟨g, 0, none⟩) n cap) n xs
  nn : rs.length = n
  own : ∀ (k : Nat) (v : Value), xs[k]? = some v → OwB 5 W lo v (rs.getD k [])
  ne : ∀ (k : Nat) (v : Value), xs[k]? = some v → v.ownBlock ≠ some g
  inj : ∀ (j k : Nat) (v u : Value), xs[j]? = some v → xs[k]? = some u → v.ownBlock = u.ownBlock → v.ownBlock ≠ none → j = k
section
variable {lo : Nat} {W W' : World} {g cap n : Nat} {xs : List Value} {rs : List (List UInt8)}
theorem Rq.len (h : Rq lo W g cap n xs rs) : xs.length = n := by have := h.row.1; omega
theorem Rq.glt (h : Rq lo W g cap n xs rs) : lo ≤ g ∧ g < W.heap.size := h.row.lt g rfl
theorem Rq.room (h : Rq lo W g cap n xs rs) : n ≤ cap ∧ cap ≤ maxLen := by
  rcases h.row.2 with ⟨h1, _⟩ | ⟨g', cap', cur, h1, _, _, h3, h4, _⟩
  · cases h1
  · injection h1 with _ _ h1; omega
theorem Rq.fz (h : Rq lo W g cap n xs rs) (k : Nat) : W.frozen? ⟨g, k, none⟩ = false := h.row.frozenAt k
theorem Rq.at (h : Rq lo W g cap n xs rs) (k : Nat) (hk : k < n) : ∃ A c, xs[k]? = some (.slice A (rs.getD k []).length c) ∧ W.cell? ⟨g, k, none⟩ = some (.slice A (rs.getD k []).length c) ∧ OwB 5 W lo (.slice A (rs.getD k []).length c) (rs.getD k []) := by
  obtain ⟨v, hv⟩ : ∃ v, xs[k]? = some v := ⟨_, List.getElem?_eq_getElem (by rw [h.len]; exact hk)⟩
  have ho := h.own k v hv
  obtain ⟨A, c, rfl, _, _⟩ := ho.rd
  exact ⟨A, c, hv, by rw [h.row.cellAt k (by omega)]; exact hv, ho⟩
theorem Rq.grown {row : Option Nat} (h : Rq lo W g cap n xs rs) (hg : W.grownBy W' row) (h1 : row ≠ some g) (h2 : ∀ (k : Nat) (v : Value), xs[k]? = some v → v.ownBlock = none ∨ v.ownBlock ≠ row) : Rq lo W' g cap n xs rs :=
  ⟨h.row.kept hg (.inr fun e => h1 e.symm), h.nn, fun k v hv => (h.own k v hv).grown hg (h2 k v hv), h.ne, h.inj⟩
theorem Rq.below (h : Rq lo W g cap n xs rs) (hb : Below W.heap.size W W') : Rq lo W' g cap n xs rs := h.grown (grown_none hb) (by simp) (fun k v _ => by cases v.ownBlock <;> simp)
theorem Rq.le {lo' : Nat} (h : Rq lo W g cap n xs rs) (hl : lo' ≤ lo) : Rq lo' W g cap n xs rs :=
  ⟨⟨h.row.1, by
    rcases h.row.2 with h1 | ⟨g', c', cur, h1, h2, r⟩
    · exact .inl h1
    · exact .inr ⟨g', c', cur, h1, Nat.le_trans hl h2, r⟩⟩, h.nn, fun k v hv => (h.own k v hv).le hl, h.ne, h.inj⟩
theorem rq_set_get {rs : List (List UInt8)} {k j : Nat} {b : List UInt8} (hk : k < rs.length) : (rs.set k b).getD j [] = if k = j then b else rs.getD j [] := by
  simp only [List.getD_eq_getElem?_getD, List.getElem?_set]
  split
  · subst_vars; simp [hk]
  · rfl
/-- A place of the row written: with nothing, or with what lies in no block of these. -/
theorem Rq.set (h : Rq lo W g cap n xs rs) (k : Nat) (hk : k < n) {v : Value} {b : List UInt8} (ho : OwB 5 W lo v b) (hg : v.ownBlock ≠ some g) (hne : ∀ (j : Nat) (u : Value), xs[j]? = some u → v.ownBlock = none ∨ v.ownBlock ≠ u.ownBlock) :
    Rq lo (W.setCell ⟨g, k, none⟩ v) g cap n (xs.set k v) (rs.set k b) ∧ W.grownBy (W.setCell ⟨g, k, none⟩ v) (some g) := by
  have hkl : k < rs.length := by rw [h.nn]; exact hk
  have hkx : k < xs.length := by rw [h.len]; exact hk
  obtain ⟨h1, h2⟩ := h.row.stored k v
  have hold : ∀ (j : Nat) (u : Value), (xs.set k v)[j]? = some u → (k = j ∧ u = v) ∨ (k ≠ j ∧ xs[j]? = some u) := fun j u hu => by
    by_cases e : k = j
    · subst e
      rw [List.getElem?_set_self hkx] at hu
      injection hu with hu
      exact .inl ⟨rfl, hu.symm⟩
    · rw [List.getElem?_set_ne e] at hu
      exact .inr ⟨e, hu⟩
  refine ⟨⟨h1, by rw [List.length_set]; exact h.nn, fun j u hu => ?_, fun j u hu => ?_, fun i j u w hu hw e hn => ?_⟩, h2⟩
  · rw [rq_set_get hkl]
    rcases hold j u hu with ⟨rfl, rfl⟩ | ⟨e, hu⟩
    · rw [if_pos rfl]; exact ho.grown h2 (.inr hg)
    · rw [if_neg e]; exact (h.own j u hu).grown h2 (.inr (h.ne j u hu))
  · rcases hold j u hu with ⟨rfl, rfl⟩ | ⟨e, hu⟩
    · exact hg
    · exact h.ne j u hu
  · rcases hold i u hu with ⟨rfl, rfl⟩ | ⟨e1, hu2⟩
    · rcases hold j w hw with ⟨rfl, rfl⟩ | ⟨e2, hw2⟩
      · rfl
      · rcases hne j w hw2 with h3 | h3
        · exact absurd h3 hn
        · exact absurd e h3
    · rcases hold j w hw with ⟨rfl, rfl⟩ | ⟨e2, hw2⟩
      · rcases hne i u hu2 with h3 | h3
        · exact absurd (e.trans h3) hn
        · exact absurd e.symm h3
      · exact h.inj i j u w hu2 hw2 e hn
/-- With what was made since. -/
theorem Rq.step (h : Rq lo W g cap n xs rs) (hb : Below W.heap.size W W') (k : Nat) (hk : k < n) {v : Value} {b : List UInt8} (ho : OwB 5 W' W.heap.size v b) :
    Rq lo (W'.setCell ⟨g, k, none⟩ v) g cap n (xs.set k v) (rs.set k b) ∧ W'.grownBy (W'.setCell ⟨g, k, none⟩ v) (some g) := by
  have hg := h.glt
  refine (h.below hb).set k hk (ho.le (by omega)) (fun e => ?_) (fun j u hu => ?_)
  · have := (ho.lt g e).1; omega
  · rcases hv : v.ownBlock with _ | q
    · exact .inl rfl
    · refine .inr fun e => ?_
      have h1 := (ho.lt q hv).1
      have h2 := ((h.own j u hu).lt q e.symm).2
      omega
/-- A byte of one written. -/
theorem Rq.put (h : Rq lo W g cap n xs rs) (k : Nat) (hk : k < n) {q m c : Nat} (hx : xs[k]? = some (.slice (some ⟨q, 0, none⟩) m c)) (hm : (rs.getD k []).length = m) (i : Nat) (x : UInt8) :
    Rq lo (W.setCell ⟨q, i, none⟩ (.int .u8 (x.toNat : Int))) g cap n xs (rs.set k ((rs.getD k []).set i x)) ∧ W.grownBy (W.setCell ⟨q, i, none⟩ (.int .u8 (x.toNat : Int))) (some q) := by
  have hkl : k < rs.length := by rw [h.nn]; exact hk
  have ho := h.own k _ hx
  obtain ⟨h1, h2⟩ := ho.set hm i x
  have hq : (some q : Option Nat) ≠ some g := h.ne k _ hx
  refine ⟨⟨h.row.kept h2 (.inr fun e => hq e.symm), by rw [List.length_set]; exact h.nn, fun j u hu => ?_, h.ne, h.inj⟩, h2⟩
  rw [rq_set_get hkl]
  by_cases e : k = j
  · subst e
    rw [if_pos rfl]
    rw [hx] at hu
    injection hu with hu
    subst hu
    exact h1
  · rw [if_neg e]
    refine (h.own j u hu).grown h2 ?_
    rcases hv : u.ownBlock with _ | p
    · exact .inl rfl
    · refine .inr fun e3 => e ?_
      exact h.inj k j _ u hx hu (by rw [hv, e3]; rfl) (by simp [Value.ownBlock])
theorem Rq.rowsY (h : Rq lo W g cap n xs rs) : RowsY W lo (some g) xs rs :=
  ⟨by rw [h.len, h.nn], fun k hk => by
    obtain ⟨A, c, h1, _, h3⟩ := h.at k (by rw [← h.nn]; exact hk)
    refine ⟨A, c, h1, h3.rdbf, fun hp a ha => ?_⟩
    obtain ⟨q, c2, e, _, _⟩ := h3.pos hp
    injection e with e _ _
    have := h.ne k _ h1
    rw [e] at this ha
    injection ha with ha
    subst ha
    exact this⟩
theorem Rq.owr (h : Rq lo W g cap n xs rs) : OwR W lo g n cap rs := ⟨h.nn, h.room.1, h.glt.1, xs, h.row, h.rowsY⟩
theorem Rq.rdr (h : Rq lo W g cap n xs rs) (hn : n ≤ 1000000) : RdR W W.heap.size (some ⟨g, 0, none⟩) rs := h.owr.rdr (by omega)
/-- A new row of nothing. -/
theorem rq_new (w : World) (n : Nat) (hn : n ≤ 1000000) : Rq w.heap.size (w.alloc (.cells (madeCells #[.slice none 0 0] n) 54)) w.heap.size n n (List.replicate n (.slice none 0 0)) (List.replicate n []) := by
  have hr := World.ownsRow_lit (base := w.heap.size) (e := 54) (size := 1) w (madeCells #[.slice none 0 0] n) n (Nat.le_refl _) (by unfold maxLen; omega) (by simp [size_madeCells])
  rw [toList_madeCells_one] at hr
  have hnil : ∀ (k : Nat) (v : Value), (List.replicate n (Value.slice none 0 0))[k]? = some v → v = .slice none 0 0 := fun k v hv => by
    rw [List.getElem?_replicate] at hv
    split at hv
    · injection hv with hv; exact hv.symm
    · cases hv
  have hget : ∀ k : Nat, (List.replicate n ([] : List UInt8)).getD k [] = [] := fun k => by
    rw [List.getD_eq_getElem?_getD, List.getElem?_replicate]; split <;> rfl
  refine ⟨hr, by simp, fun k v hv => ?_, fun k v hv => ?_, fun j k v u hv hu e hn => ?_⟩
  · rw [hnil k v hv, hget]; exact OwB.nil _ _ _
  · rw [hnil k v hv]; simp [Value.ownBlock]
  · rw [hnil j v hv] at hn; exact absurd rfl hn
end
end Go.Proofs.Ytldfoadildaljaa
end
section
set_option maxRecDepth 8000
set_option linter.unusedVariables false
set_option linter.unusedSimpArgs false
namespace Go.Proofs.Ytldfoadildaljaa
open Go.RowKit

theorem info_row2 : (Try.prog.info? 54).map (fun i => (i.zero, i.size, i.bytes)) = some (some (.slice none 0 0), 1, 24) := by kernel_rfl
/-- An own row of rows, nil or not. -/
def OwV (lo : Nat) (w : World) (v : Value) (rs : List (List UInt8)) : Prop := ∃ xs, w.ownsRow lo 54 1 v rs.length xs ∧ RowsY w lo v.ownBlock xs rs
theorem OwV.le {lo lo' : Nat} {w : World} {v : Value} {rs : List (List UInt8)} (h : OwV lo w v rs) (hB : lo' ≤ lo) : OwV lo' w v rs := by
  obtain ⟨xs, h1, h2⟩ := h
  refine ⟨xs, ⟨h1.1, ?_⟩, h2.1, fun k hk => ?_⟩
  · rcases h1.2 with h3 | ⟨g', cap', cur, h3, h4, r⟩
    · exact .inl h3
    · exact .inr ⟨g', cap', cur, h3, by omega, r⟩
  · obtain ⟨A, c, h3, h4, h5⟩ := h2.2 k hk
    exact ⟨A, c, h3, h4.le hB, h5⟩
theorem OwV.owr {lo : Nat} {w : World} {v : Value} {rs : List (List UInt8)} (h : OwV lo w v rs) (h0 : 0 < rs.length) : ∃ g cap, v = .slice (some ⟨g, 0, none⟩) rs.length cap ∧ OwR w lo g rs.length cap rs := by
  obtain ⟨xs, h1, h2⟩ := h
  rcases h1.2 with ⟨_, h3⟩ | ⟨g, cap, cur, rfl, hb, hg, hc, r⟩
  · omega
  · exact ⟨g, cap, rfl, rfl, hc, hb, xs, h1, h2⟩
theorem OwV.nil (lo : Nat) (w : World) : OwV lo w (.slice none 0 0) [] := ⟨[], World.ownsRow_nil _ _ _ _, RowsY.nil _ _ _⟩
def secZ (zs : List Int) (i : Nat) : Int := if i < zs.length then zs.getD i 0 else 3 * (i : Int)
def sectorsB (zs : List Int) (n : Nat) : List (List UInt8) := (List.range n).map fun i => sectorB (secZ zs i)
theorem sectorsB_len (zs : List Int) (n : Nat) : (sectorsB zs n).length = n := by simp [sectorsB]
theorem sectorsB_mem {zs : List Int} {n : Nat} : ∀ x ∈ sectorsB zs n, x.length = 32 := fun x hx => by
  unfold sectorsB at hx
  obtain ⟨i, _, rfl⟩ := List.mem_map.1 hx
  exact sectorB_len _
theorem sectorsB_snoc (zs : List Int) (k : Nat) : sectorsB zs (k + 1) = sectorsB zs k ++ [sectorB (secZ zs k)] := by
  unfold sectorsB
  rw [List.range_succ, List.map_append]
  rfl
end Go.Proofs.Ytldfoadildaljaa
end
section
set_option maxRecDepth 20000
set_option linter.unusedVariables false
set_option linter.unusedSimpArgs false
namespace Go.Proofs.Ytldfoadildaljaa
open Go.RowKit

end Go.Proofs.Ytldfoadildaljaa
end
section
set_option maxRecDepth 20000
set_option linter.unusedVariables false
set_option linter.unusedSimpArgs false
namespace Go.Proofs.Ytldfoadildaljaa
open Go.RowKit

/-- Own slices, each with a block of its own. -/
structure QI (lo : Nat) (w : World) (ob : Option Nat) (xs : List Value) (rs : List (List UInt8)) : Prop where
  own : ∀ (k : Nat) (v : Value), xs[k]? = some v → OwB 5 w lo v (rs.getD k []) ∧ ∃ g : Nat, v = .slice (some ⟨g, 0, none⟩) 32 32 ∧ some g ≠ ob
  inj : ∀ (j k : Nat) (v u : Value), xs[j]? = some v → xs[k]? = some u → v.ownBlock = u.ownBlock → v.ownBlock ≠ none → j = k
theorem QI.nil (lo : Nat) (w : World) (ob : Option Nat) : QI lo w ob [] [] := ⟨fun k v h => by simp at h, fun j k v u h => by simp at h⟩
theorem QI.step {lo g1 : Nat} {w w1 w1' w2 : World} {ob ob' : Option Nat} {xs : List Value} {rs : List (List UInt8)} {b : List UInt8} (h : QI lo w ob xs rs) (hl : xs.length = rs.length) (hlo : lo ≤ w.heap.size) (hob : ∀ j, ob = some j → lo ≤ j ∧ j < w.heap.size) (hb : Below w.heap.size w w1) (ho : OwB 5 w1 w.heap.size (.slice (some ⟨g1, 0, none⟩) 32 32) b) (hb1 : Below w1.heap.size w1 w1') (hg : w1'.grownBy w2 ob) (hat : ob' = ob ∨ ob' = some w1'.heap.size) :
    QI lo w2 ob' (xs ++ [.slice (some ⟨g1, 0, none⟩) 32 32]) (rs ++ [b]) := by
  have z1 := hb.size
  have z2 := hb1.size
  obtain ⟨q1, q2⟩ := ho.lt g1 rfl
  have hn1 : some g1 ≠ ob := fun e => by have := hob g1 e.symm; omega
  have old : ∀ (k : Nat) (v : Value), xs[k]? = some v → ∃ g : Nat, v = .slice (some ⟨g, 0, none⟩) 32 32 ∧ g < w.heap.size := fun k v hv => by
    obtain ⟨o1, g, rfl, _⟩ := h.own k v hv
    exact ⟨g, rfl, (o1.lt g rfl).2⟩
  have at' : ∀ (k : Nat) (v : Value), (xs ++ [.slice (some ⟨g1, 0, none⟩) 32 32])[k]? = some v → (xs[k]? = some v ∧ k < xs.length) ∨ (k = xs.length ∧ v = .slice (some ⟨g1, 0, none⟩) 32 32) := fun k v hv => by
    by_cases hk : k < xs.length
    · rw [List.getElem?_append_left hk] at hv; exact .inl ⟨hv, hk⟩
    · rw [List.getElem?_append_right (by omega)] at hv
      obtain ⟨e0, _⟩ := List.getElem?_eq_some_iff.1 hv
      have e1 : k = xs.length := by simp at e0; omega
      subst e1
      rw [Nat.sub_self] at hv
      exact .inr ⟨rfl, by simpa using hv.symm⟩
  refine ⟨fun k v hv => ?_, fun j k v u hv hu e hn => ?_⟩
  · rcases at' k v hv with ⟨hv, hk⟩ | ⟨rfl, rfl⟩
    · obtain ⟨o1, g, rfl, hne⟩ := h.own k v hv
      have hgl := (o1.lt g rfl).2
      have e : (rs ++ [b]).getD k [] = rs.getD k [] := by
        rw [List.getD_eq_getElem?_getD, List.getD_eq_getElem?_getD, List.getElem?_append_left (by omega)]
      rw [e]
      refine ⟨((o1.below hb).below hb1).grown hg (.inr hne), g, rfl, ?_⟩
      rcases hat with e | e
      · rw [e]; exact hne
      · rw [e]; intro e2; injection e2 with e2; omega
    · have e : (rs ++ [b]).getD xs.length [] = b := by
        rw [List.getD_eq_getElem?_getD, hl, List.getElem?_append_right (Nat.le_refl _), Nat.sub_self]; rfl
      rw [e]
      refine ⟨((ho.le hlo).below hb1).grown hg (.inr hn1), g1, rfl, ?_⟩
      rcases hat with e | e
      · rw [e]; exact hn1
      · rw [e]; intro e2; injection e2 with e2; omega
  · rcases at' j v hv with ⟨hv, hj⟩ | ⟨rfl, rfl⟩ <;> rcases at' k u hu with ⟨hu, hk⟩ | ⟨rfl, rfl⟩
    · exact h.inj j k v u hv hu e hn
    · obtain ⟨g, rfl, hgl⟩ := old j v hv
      have : g = g1 := by injection e
      omega
    · obtain ⟨g, rfl, hgl⟩ := old k u hu
      have : g1 = g := by injection e
      omega
    · rfl
set_option maxHeartbeats 1600000 in
theorem sectorsQ_any (A : Option Addr) (zs : List Int) (m cp n : Nat) (w : World) (hm : m = zs.length) (hr : RdZ w w.heap.size A zs) (hn : n ≤ 1000) :
    Calls Try.prog 14 #[.slice A m cp, .int .i64 (n : Int)] w fun e w' => ∃ v, e = .returned v ∧ ∃ xs, (w'.ownsRow w.heap.size 54 1 v n xs ∧ RowsY w' w.heap.size v.ownBlock xs (sectorsB zs n)) ∧ QI w.heap.size w' v.ownBlock xs (sectorsB zs n) ∧ Below w.heap.size w w' := by
  subst hm
  have hz := hr.1
  go_enter Try.func14, Try.ntmps14
  go_wp2
  go_loopw [5, 6] (fun o i wr => ∃ (k : Nat) (vs : List Value), k ≤ n ∧ i = .int .i64 k ∧ wr.ownsRow w.heap.size 54 1 o k vs ∧ RowsY wr w.heap.size o.ownBlock vs (sectorsB zs k) ∧ Below w.heap.size w wr ∧ QI w.heap.size wr o.ownBlock vs (sectorsB zs k)) (fun _ i _ => n - (intOf i).toNat)
  case atStart => exact ⟨0, [], Nat.zero_le _, rfl, World.ownsRow_nil _ _ _ _, RowsY.nil _ _ _, Below.refl _ _, QI.nil _ _ _⟩
  case round =>
    obtain ⟨k, vs, hk, rfl, hown, hrows, hbr, hc32⟩ := hrel
    have HC := Lib.hid hc32
    clear hc32
    have Hsn := Lib.hid (sectorsB_snoc zs k)
    by_cases hlt : k < n
    · have i0 : (0 : Int) ≤ (k : Int) := by omega
      have i1 : (k : Int) < (n : Int) := by omega
      generalize sectorsB zs k = rk at hrows Hsn HC
      by_cases hz2 : k < zs.length
      · have e1 : secZ zs k = zs.getD k 0 := if_pos hz2
        rw [e1] at Hsn
        obtain ⟨b, off, rfl, hbb, hc⟩ := hr.2.2 (by omega)
        have h1 := hc k hz2
        rw [← hbr.cell (p := ⟨b, off + k, none⟩) hbb] at h1
        have hbd := hr.bd k
        have i2 : (k : Int) < (zs.length : Int) := by omega
        generalize zs.getD k 0 = x at h1 hbd Hsn
        clear hc e1
        go_wp2_with fail
        (with_reducible refine (sector_any x _ hbd).mono ?_); rintro e w1 ⟨g1, rfl, ho1, hb1⟩
        have hs0 := hbr.size
        have hrows1 := hrows.below hb1
        have hown1 := hown.kept (grown_none hb1) (Classical.em _)
        have hbw1 := hbr.trans (hb1.mono hs0)
        have hs1 := hbw1.size
        have hob := Lib.hid (fun hp => ho1.addr_ob hp)
        have hl1 : (sectorB x).length = 32 := sectorB_len _
        go_wp2_with (at_builtin; refine wpList_append_V rfl _ _ _ rfl w.heap.size 54 (.slice none 0 0) 24 Try.underlying37 info_row2 rfl _ k vs rfl (hown1.kept (grown_none (below1 w1 _)) (Classical.em _)) (w1.heap.size + 1) (some ⟨w1.heap.size, 0, none⟩) 1 1 [.slice (some ⟨g1, 0, none⟩) 32 32] rfl rfl (fun _ => ⟨w1.heap.size, 0, rfl, by omega, fun j hj => by obtain rfl : j = 0 := (by simp at hj; omega); exact cell_of_row _ _ _ _ _ _ (hp_new _ _ _ rfl)⟩) (fun u hu => by simp at hu; subst hu; rfl) (by unfold maxLen; omega) (by omega) (by have := hbw1.size; simp; omega) ?_; intro v2 w2 hown2 hg2 hat2)
        have hX0 := (hrows1.below (below1 w1 (.cells #[.slice (some ⟨g1, 0, none⟩) 32 32] 54))).snoc (c := 32) ((ho1.le hs0).below (below1 w1 _)).rdbf (fun hp a ha e => by
          injection ha with ha
          subst ha
          have h3 := (hown.lt _ e.symm).2
          have h4 := (ho1.lt g1 rfl).1
          simp at h3
          omega)
        rw [hl1] at hX0
        have hX := hX0.grown hg2 hat2
        have hbw2 := (hbw1.alloc hbw1.size (.cells #[.slice (some ⟨g1, 0, none⟩) 32 32] 54)).grown hg2 (by have := hbw1.size; simp; omega) (fun j hj => (hown.lt j hj).1)
        have hQ2 := HC.out.step hrows.1 hbr.size (fun j hj => hown.lt j hj) hb1 ho1 (below1 w1 (.cells #[.slice (some ⟨g1, 0, none⟩) 32 32] 54)) hg2 hat2
        rw [← Hsn.out] at hX hQ2
        have HQ2 := Lib.hid hQ2
        clear hX0 hQ2 HC
        clear hrows1 hown1 hbw1 hg2 ho1 hb1 hbr hown hrows hl1
        go_wp2
        go_roundw
        case rel => exact ⟨k + 1, _, by omega, by go_num, hown2, hX, hbw2, HQ2.out⟩
        case measure => simp [intOf]; omega
      · have e1 : secZ zs k = 3 * (k : Int) := if_neg hz2
        rw [e1] at Hsn
        have hbd : -9223372036854775808 ≤ 3 * (k : Int) ∧ 3 * (k : Int) ≤ 9223372036854775807 := by omega
        have i2 : ¬ (k : Int) < (zs.length : Int) := by omega
        clear e1
        go_wp2_with fail
        (with_reducible refine (sector_any (3 * (k : Int)) _ hbd).mono ?_); rintro e w1 ⟨g1, rfl, ho1, hb1⟩
        have hs0 := hbr.size
        have hrows1 := hrows.below hb1
        have hown1 := hown.kept (grown_none hb1) (Classical.em _)
        have hbw1 := hbr.trans (hb1.mono hs0)
        have hs1 := hbw1.size
        have hob := Lib.hid (fun hp => ho1.addr_ob hp)
        have hl1 : (sectorB (3 * (k : Int))).length = 32 := sectorB_len _
        go_wp2_with (at_builtin; refine wpList_append_V rfl _ _ _ rfl w.heap.size 54 (.slice none 0 0) 24 Try.underlying37 info_row2 rfl _ k vs rfl (hown1.kept (grown_none (below1 w1 _)) (Classical.em _)) (w1.heap.size + 1) (some ⟨w1.heap.size, 0, none⟩) 1 1 [.slice (some ⟨g1, 0, none⟩) 32 32] rfl rfl (fun _ => ⟨w1.heap.size, 0, rfl, by omega, fun j hj => by obtain rfl : j = 0 := (by simp at hj; omega); exact cell_of_row _ _ _ _ _ _ (hp_new _ _ _ rfl)⟩) (fun u hu => by simp at hu; subst hu; rfl) (by unfold maxLen; omega) (by omega) (by have := hbw1.size; simp; omega) ?_; intro v2 w2 hown2 hg2 hat2)
        have hX0 := (hrows1.below (below1 w1 (.cells #[.slice (some ⟨g1, 0, none⟩) 32 32] 54))).snoc (c := 32) ((ho1.le hs0).below (below1 w1 _)).rdbf (fun hp a ha e => by
          injection ha with ha
          subst ha
          have h3 := (hown.lt _ e.symm).2
          have h4 := (ho1.lt g1 rfl).1
          simp at h3
          omega)
        rw [hl1] at hX0
        have hX := hX0.grown hg2 hat2
        have hbw2 := (hbw1.alloc hbw1.size (.cells #[.slice (some ⟨g1, 0, none⟩) 32 32] 54)).grown hg2 (by have := hbw1.size; simp; omega) (fun j hj => (hown.lt j hj).1)
        have hQ2 := HC.out.step hrows.1 hbr.size (fun j hj => hown.lt j hj) hb1 ho1 (below1 w1 (.cells #[.slice (some ⟨g1, 0, none⟩) 32 32] 54)) hg2 hat2
        rw [← Hsn.out] at hX hQ2
        have HQ2 := Lib.hid hQ2
        clear hX0 hQ2 HC
        clear hrows1 hown1 hbw1 hg2 ho1 hb1 hbr hown hrows hl1
        go_wp2
        go_roundw
        case rel => exact ⟨k + 1, _, by omega, by go_num, hown2, hX, hbw2, HQ2.out⟩
        case measure => simp [intOf]; omega
    · obtain rfl : k = n := by omega
      have i1 : ¬ (k : Int) < (k : Int) := by omega
      go_wp2
      go_ret
      exact ⟨_, rfl, vs, ⟨hown, hrows⟩, HC.out, hbr⟩
/-- Sectors made, as own slices in an own row. -/
theorem secs_rq {w : World} {lo n : Nat} {v : Value} {xs : List Value} {rs : List (List UInt8)} (hl : rs.length = n) (h1 : w.ownsRow lo 54 1 v n xs) (h2 : RowsY w lo v.ownBlock xs rs) (h3 : QI lo w v.ownBlock xs rs) (hn : 0 < n) :
    ∃ g cap : Nat, v = .slice (some ⟨g, 0, none⟩) n cap ∧ Rq lo w g cap n xs rs ∧ ∀ k, k < n → ∃ q : Nat, xs[k]? = some (.slice (some ⟨q, 0, none⟩) 32 32) := by
  subst hl
  obtain ⟨g, cap, rfl, ho⟩ := OwV.owr (show OwV lo w v rs from ⟨xs, h1, h2⟩) hn
  refine ⟨g, cap, rfl, ⟨h1, rfl, fun k v hv => (h3.own k v hv).1, fun k v hv => ?_, h3.inj⟩, fun k hk => ?_⟩
  · obtain ⟨_, q, rfl, hne⟩ := h3.own k v hv
    exact hne
  · have hx : k < xs.length := by rw [h2.1]; exact hk
    obtain ⟨_, q, e, _⟩ := h3.own k xs[k] (List.getElem?_eq_getElem hx)
    exact ⟨q, by rw [List.getElem?_eq_getElem hx, e]⟩
end Go.Proofs.Ytldfoadildaljaa
end
