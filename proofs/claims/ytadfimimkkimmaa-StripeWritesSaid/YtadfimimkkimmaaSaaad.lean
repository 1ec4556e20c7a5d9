/- Texts put together: Rq, GeoMath, PlaceMath, PlaceBackMath, PlaceAll, EraseBack, RowMath. -/
import Derived.Test.YtadfimimkkimmaaSaaac
import Derived.Laws.OwnMore
import Derived.WalkKit
section
set_option maxRecDepth 8000
set_option linter.unusedVariables false
set_option linter.unusedSimpArgs false
namespace Go.Proofs.Ytadfimimkkimmaa
open Go.RowKit

structure Rq (lo : Nat) (W : World) (g cap n : Nat) (xs : List Value) (rs : List (List UInt8)) : Prop where
  row : W.ownsRow lo 46 1 (.slice (some ⟨g, 0, none⟩) n cap) n xs
  nn : rs.length = n
  own : ∀ (k : Nat) (v : Value), xs[k]? = some v → OwB 5 W lo v (rs.getD k [])
  ne : ∀ (k : Nat) (v : Value), xs[k]? = some v → v.ownBlock ≠ some g
  inj : ∀ (j k : Nat) (v u : Value), xs[j]? = some v → xs[k]? = some u → v.ownBlock = u.ownBlock → v.ownBlock ≠ none → j = k
section
variable {lo : Nat} {W W' : World} {g cap n : Nat} {xs : List Value} {rs : List (List UInt8)}
theorem Rq.len (h : Rq lo W g cap n xs rs) : xs.length = n := by have := h.row.1; omega
theorem Rq.glt (h : Rq lo W g cap n xs rs) : lo ≤ g ∧ g < W.heap.size := h.row.lt g rfl
theorem Rq.room (h : Rq lo W g cap n xs rs) : n ≤ cap ∧ cap ≤ maxLen := by
  rcases h.row.2 with ⟨h1, _⟩ | ⟨g', cap', cur, h1, _, _, h3, h4, _⟩
  · cases h1
  · injection h1 with _ _ h1; omega
theorem Rq.fz (h : Rq lo W g cap n xs rs) (k : Nat) : W.frozen? ⟨g, k, none⟩ = false := h.row.frozenAt k
theorem Rq.at (h : Rq lo W g cap n xs rs) (k : Nat) (hk : k < n) : ∃ A c, xs[k]? = some (.slice A (rs.getD k []).length c) ∧ W.cell? ⟨g, k, none⟩ = some (.slice A (rs.getD k []).length c) ∧ OwB 5 W lo (.slice A (rs.getD k []).length c) (rs.getD k []) := by
  obtain ⟨v, hv⟩ : ∃ v, xs[k]? = some v := ⟨_, List.getElem?_eq_getElem (by rw [h.len]; exact hk)⟩
  have ho := h.own k v hv
  obtain ⟨A, c, rfl, _, _⟩ := ho.rd
  exact ⟨A, c, hv, by rw [h.row.cellAt k (by omega)]; exact hv, ho⟩
theorem Rq.grown {row : Option Nat} (h : Rq lo W g cap n xs rs) (hg : W.grownBy W' row) (h1 : row ≠ some g) (h2 : ∀ (k : Nat) (v : Value), xs[k]? = some v → v.ownBlock = none ∨ v.ownBlock ≠ row) : Rq lo W' g cap n xs rs :=
  ⟨h.row.kept hg (.inr fun e => h1 e.symm), h.nn, fun k v hv => (h.own k v hv).grown hg (h2 k v hv), h.ne, h.inj⟩
theorem Rq.below (h : Rq lo W g cap n xs rs) (hb : Below W.heap.size W W') : Rq lo W' g cap n xs rs := h.grown (grown_none hb) (by simp) (fun k v _ => by cases v.ownBlock <;> simp)
theorem Rq.le {lo' : Nat} (h : Rq lo W g cap n xs rs) (hl : lo' ≤ lo) : Rq lo' W g cap n xs rs :=
  ⟨⟨h.row.1, by
    rcases h.row.2 with h1 | ⟨g', c', cur, h1, h2, r⟩
    · exact .inl h1
    · exact .inr ⟨g', c', cur, h1, Nat.le_trans hl h2, r⟩⟩, h.nn, fun k v hv => (h.own k v hv).le hl, h.ne, h.inj⟩
theorem rq_set_get {rs : List (List UInt8)} {k j : Nat} {b : List UInt8} (hk : k < rs.length) : (rs.set k b).getD j [] = if k = j then b else rs.getD j [] := by
  simp only [List.getD_eq_getElem?_getD, List.getElem?_set]
  split
  · subst_vars; simp [hk]
  · rfl
/-- A place of the row written: with nothing, or with what lies in no block of these. -/
theorem Rq.set (h : Rq lo W g cap n xs rs) (k : Nat) (hk : k < n) {v : Value} {b : List UInt8} (ho : OwB 5 W lo v b) (hg : v.ownBlock ≠ some g) (hne : ∀ (j : Nat) (u : Value), xs[j]? = some u → v.ownBlock = none ∨ v.ownBlock ≠ u.ownBlock) :
    Rq lo (W.setCell ⟨g, k, none⟩ v) g cap n (xs.set k v) (rs.set k b) ∧ W.grownBy (W.setCell ⟨g, k, none⟩ v) (some g) := by
  have hkl : k < rs.length := by rw [h.nn]; exact hk
  have hkx : k < xs.length := by rw [h.len]; exact hk
  obtain ⟨h1, h2⟩ := h.row.stored k v
  have hold : ∀ (j : Nat) (u : Value), (xs.set k v)[j]? = some u → (k = j ∧ u = v) ∨ (k ≠ j ∧ xs[j]? = some u) := fun j u hu => by
    by_cases e : k = j
    · subst e
      rw [List.getElem?_set_self hkx] at hu
      injection hu with hu
      exact .inl ⟨rfl, hu.symm⟩
    · rw [List.getElem?_set_ne e] at hu
      exact .inr ⟨e, hu⟩
  refine ⟨⟨h1, by rw [List.length_set]; exact h.nn, fun j u hu => ?_, fun j u hu => ?_, fun i j u w hu hw e hn => ?_⟩, h2⟩
  · rw [rq_set_get hkl]
    rcases hold j u hu with ⟨rfl, rfl⟩ | ⟨e, hu⟩
    · rw [if_pos rfl]; exact ho.grown h2 (.inr hg)
    · rw [if_neg e]; exact (h.own j u hu).grown h2 (.inr (h.ne j u hu))
  · rcases hold j u hu with ⟨rfl, rfl⟩ | ⟨e, hu⟩
    · exact hg
    · exact h.ne j u hu
  · rcases hold i u hu with ⟨rfl, rfl⟩ | ⟨e1, hu2⟩
    · rcases hold j w hw with ⟨rfl, rfl⟩ | ⟨e2, hw2⟩
      · rfl
      · rcases hne j w hw2 with h3 | h3
        · exact absurd h3 hn
        · exact absurd e h3
    · rcases hold j w hw with ⟨rfl, rfl⟩ | ⟨e2, hw2⟩
      · rcases hne i u hu2 with h3 | h3
        · exact absurd (e.trans h3) hn
        · exact absurd e.symm h3
      · exact h.inj i j u w hu2 hw2 e hn
/-- With what was made since. -/
theorem Rq.step (h : Rq lo W g cap n xs rs) (hb : Below W.heap.size W W') (k : Nat) (hk : k < n) {v : Value} {b : List UInt8} (ho : OwB 5 W' W.heap.size v b) :
    Rq lo (W'.setCell ⟨g, k, none⟩ v) g cap n (xs.set k v) (rs.set k b) ∧ W'.grownBy (W'.setCell ⟨g, k, none⟩ v) (some g) := by
  have hg := h.glt
  refine (h.below hb).set k hk (ho.le (by omega)) (fun e => ?_) (fun j u hu => ?_)
  · have := (ho.lt g e).1; omega
  · rcases hv : v.ownBlock with _ | q
    · exact .inl rfl
    · refine .inr fun e => ?_
      have h1 := (ho.lt q hv).1
      have h2 := ((h.own j u hu).lt q e.symm).2
      omega
theorem Rq.gone (h : Rq lo W g cap n xs rs) (k : Nat) (hk : k < n) :
    Rq lo (W.setCell ⟨g, k, none⟩ (.slice none 0 0)) g cap n (xs.set k (.slice none 0 0)) (rs.set k []) ∧ W.grownBy (W.setCell ⟨g, k, none⟩ (.slice none 0 0)) (some g) :=
  h.set k hk (OwB.nil _ _ _) (by simp [Value.ownBlock]) (fun _ _ _ => .inl rfl)
/-- A byte of one written. -/
theorem Rq.put (h : Rq lo W g cap n xs rs) (k : Nat) (hk : k < n) {q m c : Nat} (hx : xs[k]? = some (.slice (some ⟨q, 0, none⟩) m c)) (hm : (rs.getD k []).length = m) (i : Nat) (x : UInt8) :
    Rq lo (W.setCell ⟨q, i, none⟩ (.int .u8 (x.toNat : Int))) g cap n xs (rs.set k ((rs.getD k []).set i x)) ∧ W.grownBy (W.setCell ⟨q, i, none⟩ (.int .u8 (x.toNat : Int))) (some q) := by
  have hkl : k < rs.length := by rw [h.nn]; exact hk
  have ho := h.own k _ hx
  obtain ⟨h1, h2⟩ := ho.set hm i x
  have hq : (some q : Option Nat) ≠ some g := h.ne k _ hx
  refine ⟨⟨h.row.kept h2 (.inr fun e => hq e.symm), by rw [List.length_set]; exact h.nn, fun j u hu => ?_, h.ne, h.inj⟩, h2⟩
  rw [rq_set_get hkl]
  by_cases e : k = j
  · subst e
    rw [if_pos rfl]
    rw [hx] at hu
    injection hu with hu
    subst hu
    exact h1
  · rw [if_neg e]
    refine (h.own j u hu).grown h2 ?_
    rcases hv : u.ownBlock with _ | p
    · exact .inl rfl
    · refine .inr fun e3 => e ?_
      exact h.inj k j _ u hx hu (by rw [hv, e3]; rfl) (by simp [Value.ownBlock])
theorem Rq.rowsY (h : Rq lo W g cap n xs rs) : RowsY W lo (some g) xs rs :=
  ⟨by rw [h.len, h.nn], fun k hk => by
    obtain ⟨A, c, h1, _, h3⟩ := h.at k (by rw [← h.nn]; exact hk)
    refine ⟨A, c, h1, h3.rdbf, fun hp a ha => ?_⟩
    obtain ⟨q, c2, e, _, _⟩ := h3.pos hp
    injection e with e _ _
    have := h.ne k _ h1
    rw [e] at this ha
    injection ha with ha
    subst ha
    exact this⟩
theorem Rq.owr (h : Rq lo W g cap n xs rs) : OwR W lo g n cap rs := ⟨h.nn, h.room.1, h.glt.1, xs, h.row, h.rowsY⟩
theorem Rq.rdr (h : Rq lo W g cap n xs rs) (hn : n ≤ 1000000) : RdR W W.heap.size (some ⟨g, 0, none⟩) rs := h.owr.rdr (by omega)
/-- A new row of nothing. -/
theorem rq_new (w : World) (n : Nat) (hn : n ≤ 1000000) : Rq w.heap.size (w.alloc (.cells (madeCells #[.slice none 0 0] n) 46)) w.heap.size n n (List.replicate n (.slice none 0 0)) (List.replicate n []) := by
  have hr := World.ownsRow_lit (base := w.heap.size) (e := 46) (size := 1) w (madeCells #[.slice none 0 0] n) n (Nat.le_refl _) (by unfold maxLen; omega) (by simp [size_madeCells])
  rw [toList_madeCells_one] at hr
  have hnil : ∀ (k : Nat) (v : Value), (List.replicate n (Value.slice none 0 0))[k]? = some v → v = .slice none 0 0 := fun k v hv => by
    rw [List.getElem?_replicate] at hv
    split at hv
    · injection hv with hv; exact hv.symm
    · cases hv
  have hget : ∀ k : Nat, (List.replicate n ([] : List UInt8)).getD k [] = [] := fun k => by
    rw [List.getD_eq_getElem?_getD, List.getElem?_replicate]; split <;> rfl
  refine ⟨hr, by simp, fun k v hv => ?_, fun k v hv => ?_, fun j k v u hv hu e hn => ?_⟩
  · rw [hnil k v hv, hget]; exact OwB.nil _ _ _
  · rw [hnil k v hv]; simp [Value.ownBlock]
  · rw [hnil j v hv] at hn; exact absurd rfl hn
end
end Go.Proofs.Ytadfimimkkimmaa
end
section
namespace Go.Proofs.Ytadfimimkkimmaa

/-- A geometry (level, disks, chunk) that may be. -/
def lvB (l d : Int) : Bool := decide (((l = 5 ∧ 3 ≤ d) ∨ (l = 6 ∧ 4 ≤ d)) ∧ d ≤ 8)
def chB (c : Int) : Bool := decide (c = 1 ∨ c = 2 ∨ c = 4)
def gOk (l d c : Int) : Bool := lvB l d && chB c
def gBud (l d c : Int) : Int := if gOk l d c = true then l - 4 else 0
def gWid (l d c : Int) : Int := if gOk l d c = true then d - (l - 4) else 0
def gCap (l d c : Int) : Int := gWid l d c * 16
def gEq (l d c l' d' c' : Int) : Bool := decide (l = l' ∧ d = d' ∧ c = c')
def gGe (l d c l' d' c' : Int) : Bool := decide (d ≤ d' ∧ l ≤ l' ∧ gWid l d c ≤ gWid l' d' c')
def gCan (l d c l' d' c' : Int) : Bool := gOk l d c && gOk l' d' c' && !gEq l d c l' d' c' && gGe l d c l' d' c'

def gErr (l d c : Int) : Int := if gOk l d c = true then 0 else 1
theorem gErr_yes {l d c : Int} (h : gOk l d c = true) : gErr l d c = 0 := if_pos h
theorem gErr_no {l d c : Int} (h : gOk l d c = false) : gErr l d c = 1 := if_neg (by rw [h]; decide)
theorem lvB_no {l d : Int} (h : ¬ (((l = 5 ∧ 3 ≤ d) ∨ (l = 6 ∧ 4 ≤ d)) ∧ d ≤ 8)) : lvB l d = false := decide_eq_false h
theorem lvB_5 {d : Int} (h : ¬ 8 < d) : lvB 5 d = decide (3 ≤ d) := by simp [lvB]; omega
theorem lvB_6 {d : Int} (h : ¬ 8 < d) : lvB 6 d = decide (4 ≤ d) := by simp [lvB]; omega
theorem chB_no {c : Int} (h : ¬ (c = 1 ∨ c = 2 ∨ c = 4)) : chB c = false := decide_eq_false h
theorem chB_yes {c : Int} (h : c = 1 ∨ c = 2 ∨ c = 4) : chB c = true := decide_eq_true h
theorem gGe_eq (l d c l' d' c' : Int) : gGe l d c l' d' c' = decide (d ≤ d' ∧ l ≤ l' ∧ gWid l d c ≤ gWid l' d' c') := rfl
theorem gOk_yes {l d c : Int} (h : gOk l d c = true) : ((l = 5 ∧ 3 ≤ d) ∨ (l = 6 ∧ 4 ≤ d)) ∧ d ≤ 8 ∧ (c = 1 ∨ c = 2 ∨ c = 4) := by
  simp [gOk, lvB, chB] at h
  omega
theorem gOk_mk {l d c : Int} (h : ((l = 5 ∧ 3 ≤ d) ∨ (l = 6 ∧ 4 ≤ d)) ∧ d ≤ 8 ∧ (c = 1 ∨ c = 2 ∨ c = 4)) : gOk l d c = true := by
  simp [gOk, lvB, chB]
  omega
theorem gOk_no {l d c : Int} (h : ¬ (((l = 5 ∧ 3 ≤ d) ∨ (l = 6 ∧ 4 ≤ d)) ∧ d ≤ 8 ∧ (c = 1 ∨ c = 2 ∨ c = 4))) : gOk l d c = false := by
  rw [← Bool.not_eq_true]; intro h'; exact h (gOk_yes h')
theorem gOk_bd {l d c : Int} (h : gOk l d c = true) : 5 ≤ l ∧ l ≤ 6 ∧ 3 ≤ d ∧ d ≤ 8 ∧ 1 ≤ c ∧ c ≤ 4 := by
  have := gOk_yes h
  omega
theorem gBud_yes {l d c : Int} (h : gOk l d c = true) : gBud l d c = l - 4 := if_pos h
theorem gBud_no {l d c : Int} (h : gOk l d c = false) : gBud l d c = 0 := if_neg (by rw [h]; decide)
theorem gWid_yes {l d c : Int} (h : gOk l d c = true) : gWid l d c = d - (l - 4) := if_pos h
theorem gWid_no {l d c : Int} (h : gOk l d c = false) : gWid l d c = 0 := if_neg (by rw [h]; decide)
theorem gBud_bd (l d c : Int) : 0 ≤ gBud l d c ∧ gBud l d c ≤ 2 := by
  cases h : gOk l d c
  · rw [gBud_no h]; omega
  · have := gOk_bd h; rw [gBud_yes h]; omega
theorem gWid_bd (l d c : Int) : 0 ≤ gWid l d c ∧ gWid l d c ≤ 7 := by
  cases h : gOk l d c
  · rw [gWid_no h]; omega
  · have := gOk_yes h; rw [gWid_yes h]; omega
theorem gEq_yes {l d c l' d' c' : Int} (h : gEq l d c l' d' c' = true) : l = l' ∧ d = d' ∧ c = c' := by simpa [gEq] using h
theorem gEq_no {l d c l' d' c' : Int} (h : gEq l d c l' d' c' = false) : ¬ (l = l' ∧ d = d' ∧ c = c') := by simpa [gEq] using h
theorem gEq_refl (l d c : Int) : gEq l d c l d c = true := by simp [gEq]
theorem gCan_parts {l d c l' d' c' : Int} (h : gCan l d c l' d' c' = true) : gOk l d c = true ∧ gOk l' d' c' = true ∧ gEq l d c l' d' c' = false ∧ d ≤ d' ∧ l ≤ l' ∧ gWid l d c ≤ gWid l' d' c' := by
  simp [gCan, gGe] at h
  exact ⟨h.1.1.1, h.1.1.2, h.1.2, h.2.1, h.2.2.1, h.2.2.2⟩
theorem gCan_mk {l d c l' d' c' : Int} (h : gOk l d c = true ∧ gOk l' d' c' = true ∧ gEq l d c l' d' c' = false ∧ d ≤ d' ∧ l ≤ l' ∧ gWid l d c ≤ gWid l' d' c') : gCan l d c l' d' c' = true := by
  simp [gCan, gGe]
  exact ⟨⟨⟨h.1, h.2.1⟩, h.2.2.1⟩, h.2.2.2.1, h.2.2.2.2.1, h.2.2.2.2.2⟩
theorem gCan_ok {l d c l' d' c' : Int} (h : gOk l d c = true) (h' : gOk l' d' c' = true) (hn : gEq l d c l' d' c' = false) : gCan l d c l' d' c' = gGe l d c l' d' c' := by
  simp [gCan, h, h', hn]
end Go.Proofs.Ytadfimimkkimmaa
end
section
namespace Go.Proofs.Ytadfimimkkimmaa

/-- A row of a geometry that may be. -/
def plOk (l d c r : Int) : Bool := gOk l d c && decide (0 ≤ r ∧ r < 16)
def plP (l d c r : Int) : Int := if plOk l d c r = true then d - 1 - r / c % d else -1
def plQ (l d c r : Int) : Int := if plOk l d c r = true then (if l = 6 then (d - 1 - r / c % d + 1) % d else -1) else -1
/-- The disk of data chunk 0. -/
def plF (l d c r : Int) : Int := (d - 1 - r / c % d + (l - 4)) % d
def plDok (l d c r k : Int) : Bool := plOk l d c r && decide (0 ≤ k ∧ k < gWid l d c)
def plD (l d c r k : Int) : Int := if plDok l d c r k = true then (plF l d c r + k) % d else -1
def plOfOk (l d c n : Int) : Bool := decide (0 ≤ n ∧ n < gCap l d c)
def plRow (l d c n : Int) : Int := n / c / (d - (l - 4)) * c + n % c
def plOfD (l d c n : Int) : Int := if plOfOk l d c n = true then plD l d c (plRow l d c n) (n / c % (d - (l - 4))) else 0
def plOfR (l d c n : Int) : Int := if plOfOk l d c n = true then plRow l d c n else 0
def plN (l d c r k : Int) : Int := (r / c * (d - (l - 4)) + k) * c + r % c
def plNums (l d c r : Int) : List Int := if plOk l d c r = true then (List.range (d - (l - 4)).toNat).map (fun k : Nat => plN l d c r (k : Int)) else []
def plBOk (l d c i r : Int) : Bool := plOk l d c r && decide (0 ≤ i ∧ i < d)
def plBk (l d c i r : Int) : Int := if plBOk l d c i r = true then (if i = plP l d c r then 1 else if i = plQ l d c r then 2 else 0) else 0
def plK (l d c i r : Int) : Int := (i - plF l d c r + d) % d
def plBn (l d c i r : Int) : Int := if plBOk l d c i r = true then (if i = plP l d c r then 0 else if i = plQ l d c r then 0 else plN l d c r (plK l d c i r)) else 0

theorem plOk_yes {l d c r : Int} (h : plOk l d c r = true) : gOk l d c = true ∧ 0 ≤ r ∧ r < 16 := by
  simp [plOk] at h
  exact h
theorem plOk_mk {l d c r : Int} (h : gOk l d c = true) (h0 : 0 ≤ r) (h1 : r < 16) : plOk l d c r = true := by
  simp [plOk, h, h0, h1]
theorem plOk_no {l d c r : Int} (h : ¬ (gOk l d c = true ∧ 0 ≤ r ∧ r < 16)) : plOk l d c r = false := by
  rw [← Bool.not_eq_true]; intro h'; exact h (plOk_yes h')
theorem plDok_yes {l d c r k : Int} (h : plDok l d c r k = true) : plOk l d c r = true ∧ 0 ≤ k ∧ k < gWid l d c := by
  simp [plDok] at h
  exact h
theorem plDok_no {l d c r k : Int} (h : ¬ (plOk l d c r = true ∧ 0 ≤ k ∧ k < gWid l d c)) : plDok l d c r k = false := by
  rw [← Bool.not_eq_true]; intro h'; exact h (plDok_yes h')
theorem plBOk_yes {l d c i r : Int} (h : plBOk l d c i r = true) : plOk l d c r = true ∧ 0 ≤ i ∧ i < d := by
  simp [plBOk] at h
  exact h
theorem plBOk_no {l d c i r : Int} (h : ¬ (plOk l d c r = true ∧ 0 ≤ i ∧ i < d)) : plBOk l d c i r = false := by
  rw [← Bool.not_eq_true]; intro h'; exact h (plBOk_yes h')
theorem plOfOk_yes {l d c n : Int} (h : plOfOk l d c n = true) : 0 ≤ n ∧ n < gCap l d c := by
  simpa [plOfOk] using h
theorem plOfOk_no {l d c n : Int} (h : ¬ (0 ≤ n ∧ n < gCap l d c)) : plOfOk l d c n = false := by
  rw [← Bool.not_eq_true]; intro h'; exact h (plOfOk_yes h')
theorem plP_yes {l d c r : Int} (h : plOk l d c r = true) : plP l d c r = d - 1 - r / c % d := if_pos h
theorem plP_no {l d c r : Int} (h : plOk l d c r = false) : plP l d c r = -1 := if_neg (by rw [h]; decide)
theorem plQ_6 {d c r : Int} (h : plOk 6 d c r = true) : plQ 6 d c r = (d - 1 - r / c % d + 1) % d := by rw [plQ, if_pos h, if_pos rfl]
theorem plQ_5 {d c r : Int} : plQ 5 d c r = -1 := by unfold plQ; split <;> simp
theorem plQ_no {l d c r : Int} (h : plOk l d c r = false) : plQ l d c r = -1 := if_neg (by rw [h]; decide)
theorem plD_yes {l d c r k : Int} (h : plDok l d c r k = true) : plD l d c r k = (plF l d c r + k) % d := if_pos h
theorem plD_no {l d c r k : Int} (h : plDok l d c r k = false) : plD l d c r k = -1 := if_neg (by rw [h]; decide)
/-- Quotients of rows, and of numbers, by a chunk's size. -/
theorem quo_bd {r c : Int} (n : Int) (h0 : 0 ≤ r) (h1 : r < n) (hc : 1 ≤ c) : 0 ≤ r / c ∧ r / c < n := by
  have a := Int.ediv_nonneg h0 (show 0 ≤ c by omega)
  have b := Int.ediv_le_self c h0
  omega
theorem rem_bd (r : Int) {d : Int} (hd : 1 ≤ d) : 0 ≤ r % d ∧ r % d < d := ⟨Int.emod_nonneg _ (by omega), Int.emod_lt_of_pos _ (by omega)⟩
theorem plF_bd (l c r : Int) {d : Int} (hd : 1 ≤ d) : 0 ≤ plF l d c r ∧ plF l d c r < d := rem_bd _ hd
theorem gCap_yes {l d c : Int} (h : gOk l d c = true) : gCap l d c = (d - (l - 4)) * 16 := by rw [gCap, gWid_yes h]
theorem gCap_no {l d c : Int} (h : gOk l d c = false) : gCap l d c = 0 := by rw [gCap, gWid_no h]; rfl
theorem gCap_bd (l d c : Int) : 0 ≤ gCap l d c ∧ gCap l d c ≤ 112 := by
  have := gWid_bd l d c
  unfold gCap; omega
theorem plOfOk_ok {l d c n : Int} (h : plOfOk l d c n = true) : gOk l d c = true := by
  cases hg : gOk l d c
  · have := plOfOk_yes h
    rw [gCap_no hg] at this
    omega
  · rfl
end Go.Proofs.Ytadfimimkkimmaa
end
section
namespace Go.Proofs.Ytadfimimkkimmaa

/-- A level and so many disks, one by one. -/
theorem ld_cases {l d c : Int} (h : gOk l d c = true) : (l = 5 ∧ d = 3) ∨ (l = 5 ∧ d = 4) ∨ (l = 5 ∧ d = 5) ∨ (l = 5 ∧ d = 6) ∨ (l = 5 ∧ d = 7) ∨ (l = 5 ∧ d = 8) ∨ (l = 6 ∧ d = 4) ∨ (l = 6 ∧ d = 5) ∨ (l = 6 ∧ d = 6) ∨ (l = 6 ∧ d = 7) ∨ (l = 6 ∧ d = 8) := by
  obtain ⟨h1, h8, _⟩ := gOk_yes h
  rcases h1 with ⟨rfl, h3⟩ | ⟨rfl, h4⟩
  · have hd : d = 3 ∨ d = 4 ∨ d = 5 ∨ d = 6 ∨ d = 7 ∨ d = 8 := by omega
    rcases hd with rfl | rfl | rfl | rfl | rfl | rfl <;> simp
  · have hd : d = 4 ∨ d = 5 ∨ d = 6 ∨ d = 7 ∨ d = 8 := by omega
    rcases hd with rfl | rfl | rfl | rfl | rfl <;> simp
theorem plK_spec {l d c i r : Int} (h : plBOk l d c i r = true) (hp : i ≠ plP l d c r) (hq : i ≠ plQ l d c r) :
    0 ≤ plK l d c i r ∧ plK l d c i r < gWid l d c ∧ plD l d c r (plK l d c i r) = i := by
  obtain ⟨hk, h0, h1⟩ := plBOk_yes h
  obtain ⟨hg, _, _⟩ := plOk_yes hk
  have hm := rem_bd (r / c) (show 1 ≤ d by have := gOk_bd hg; omega)
  rw [plP_yes hk] at hp
  have hw := gWid_yes hg
  have hkk : 0 ≤ plK l d c i r ∧ plK l d c i r < gWid l d c ∧ (plF l d c r + plK l d c i r) % d = i := by
    rw [hw]
    unfold plQ at hq
    rw [if_pos hk] at hq
    unfold plK plF
    generalize r / c % d = m at hm hp hq
    rcases ld_cases hg with ⟨rfl, rfl⟩ | ⟨rfl, rfl⟩ | ⟨rfl, rfl⟩ | ⟨rfl, rfl⟩ | ⟨rfl, rfl⟩ | ⟨rfl, rfl⟩ | ⟨rfl, rfl⟩ | ⟨rfl, rfl⟩ | ⟨rfl, rfl⟩ | ⟨rfl, rfl⟩ | ⟨rfl, rfl⟩ <;> simp at hq <;> omega
  have hd : plDok l d c r (plK l d c i r) = true := by
    unfold plDok
    rw [hk, decide_eq_true ⟨hkk.1, hkk.2.1⟩]; rfl
  exact ⟨hkk.1, hkk.2.1, by rw [plD_yes hd]; exact hkk.2.2⟩
theorem plK_only {l d c i r k : Int} (h : plDok l d c r k = true) (he : plD l d c r k = i) : k = plK l d c i r := by
  obtain ⟨hk, h0, h1⟩ := plDok_yes h
  obtain ⟨hg, _, _⟩ := plOk_yes hk
  have hf := plF_bd l c r (show 1 ≤ d by have := gOk_bd hg; omega)
  rw [plD_yes h] at he
  rw [gWid_yes hg] at h1
  unfold plK
  generalize plF l d c r = f at hf he
  subst he
  rcases ld_cases hg with ⟨rfl, rfl⟩ | ⟨rfl, rfl⟩ | ⟨rfl, rfl⟩ | ⟨rfl, rfl⟩ | ⟨rfl, rfl⟩ | ⟨rfl, rfl⟩ | ⟨rfl, rfl⟩ | ⟨rfl, rfl⟩ | ⟨rfl, rfl⟩ | ⟨rfl, rfl⟩ | ⟨rfl, rfl⟩ <;> omega
end Go.Proofs.Ytadfimimkkimmaa
end
section
namespace Go.Proofs.Ytadfimimkkimmaa

theorem wd_cases {l d c : Int} (h : gOk l d c = true) : (d - (l - 4) = 2 ∨ d - (l - 4) = 3 ∨ d - (l - 4) = 4 ∨ d - (l - 4) = 5 ∨ d - (l - 4) = 6 ∨ d - (l - 4) = 7) ∧ (c = 1 ∨ c = 2 ∨ c = 4) := by
  obtain ⟨h1, h8, hc⟩ := gOk_yes h
  refine ⟨?_, hc⟩
  omega
/-- The place of a sector: its row, its data chunk; and the number that stands there. -/
theorem of_row {l d c n : Int} (hg : gOk l d c = true) (h0 : 0 ≤ n) (h1 : n < gCap l d c) :
    0 ≤ plRow l d c n ∧ plRow l d c n < 16 ∧ 0 ≤ n / c % (d - (l - 4)) ∧ n / c % (d - (l - 4)) < d - (l - 4) ∧ plRow l d c n / c = n / c / (d - (l - 4)) ∧ plN l d c (plRow l d c n) (n / c % (d - (l - 4))) = n := by
  obtain ⟨hw, hc⟩ := wd_cases hg
  rw [gCap_yes hg] at h1
  unfold plN plRow
  generalize d - (l - 4) = wd at hw h1
  rcases hw with rfl | rfl | rfl | rfl | rfl | rfl <;> rcases hc with rfl | rfl | rfl <;> omega
/-- The number in a row, of a data chunk: its place is there. -/
theorem num_row {l d c r k : Int} (h : plDok l d c r k = true) : 0 ≤ plN l d c r k ∧ plN l d c r k < gCap l d c ∧ plRow l d c (plN l d c r k) = r ∧ plN l d c r k / c % (d - (l - 4)) = k := by
  obtain ⟨hk, k0, k1⟩ := plDok_yes h
  obtain ⟨hg, r0, r1⟩ := plOk_yes hk
  obtain ⟨hw, hc⟩ := wd_cases hg
  rw [gWid_yes hg] at k1
  rw [gCap_yes hg]
  unfold plN plRow
  generalize d - (l - 4) = wd at hw k1
  rcases hw with rfl | rfl | rfl | rfl | rfl | rfl <;> rcases hc with rfl | rfl | rfl <;> omega
theorem plDok_mk {l d c r k : Int} (h : plOk l d c r = true) (k0 : 0 ≤ k) (k1 : k < d - (l - 4)) : plDok l d c r k = true := by
  unfold plDok
  rw [h, gWid_yes (plOk_yes h).1, decide_eq_true ⟨k0, k1⟩]; rfl
/-- Data stands on no disk of parity. -/
theorem data_ne {l d c r k : Int} (h : plDok l d c r k = true) : 0 ≤ plD l d c r k ∧ plD l d c r k < d ∧ plD l d c r k ≠ plP l d c r ∧ plD l d c r k ≠ plQ l d c r := by
  obtain ⟨hk, k0, k1⟩ := plDok_yes h
  obtain ⟨hg, _, _⟩ := plOk_yes hk
  have hm := rem_bd (r / c) (show 1 ≤ d by have := gOk_bd hg; omega)
  rw [plD_yes h, plP_yes hk]
  rw [gWid_yes hg] at k1
  unfold plQ plF
  rw [if_pos hk]
  generalize r / c % d = m at hm
  rcases ld_cases hg with ⟨rfl, rfl⟩ | ⟨rfl, rfl⟩ | ⟨rfl, rfl⟩ | ⟨rfl, rfl⟩ | ⟨rfl, rfl⟩ | ⟨rfl, rfl⟩ | ⟨rfl, rfl⟩ | ⟨rfl, rfl⟩ | ⟨rfl, rfl⟩ | ⟨rfl, rfl⟩ | ⟨rfl, rfl⟩ <;> simp <;> omega
theorem parity_in {l d c r : Int} (hk : plOk l d c r = true) : 0 ≤ plP l d c r ∧ plP l d c r < d ∧ (l = 5 → plQ l d c r = -1) ∧ (l = 6 → 0 ≤ plQ l d c r ∧ plQ l d c r < d ∧ plQ l d c r ≠ plP l d c r) := by
  obtain ⟨hg, _, _⟩ := plOk_yes hk
  have hm := rem_bd (r / c) (show 1 ≤ d by have := gOk_bd hg; omega)
  rw [plP_yes hk]
  unfold plQ
  rw [if_pos hk]
  generalize r / c % d = m at hm
  rcases ld_cases hg with ⟨rfl, rfl⟩ | ⟨rfl, rfl⟩ | ⟨rfl, rfl⟩ | ⟨rfl, rfl⟩ | ⟨rfl, rfl⟩ | ⟨rfl, rfl⟩ | ⟨rfl, rfl⟩ | ⟨rfl, rfl⟩ | ⟨rfl, rfl⟩ | ⟨rfl, rfl⟩ | ⟨rfl, rfl⟩ <;> simp <;> omega
/-- What stands at data's place. -/
theorem back_data {l d c r k : Int} (h : plDok l d c r k = true) : plBOk l d c (plD l d c r k) r = true ∧ plBk l d c (plD l d c r k) r = 0 ∧ plBn l d c (plD l d c r k) r = plN l d c r k := by
  obtain ⟨a, b, e1, e2⟩ := data_ne h
  have hk := (plDok_yes h).1
  have hb : plBOk l d c (plD l d c r k) r = true := by unfold plBOk; rw [hk, decide_eq_true ⟨a, b⟩]; rfl
  refine ⟨hb, ?_, ?_⟩
  · unfold plBk; rw [if_pos hb, if_neg e1, if_neg e2]
  · unfold plBn; rw [if_pos hb, if_neg e1, if_neg e2, ← plK_only h rfl]
theorem back_parity {l d c r : Int} (hk : plOk l d c r = true) : plBOk l d c (plP l d c r) r = true ∧ plBk l d c (plP l d c r) r = 1 := by
  obtain ⟨a, b, _⟩ := parity_in hk
  have hb : plBOk l d c (plP l d c r) r = true := by unfold plBOk; rw [hk, decide_eq_true ⟨a, b⟩]; rfl
  exact ⟨hb, by unfold plBk; rw [if_pos hb, if_pos rfl]⟩
theorem of_yes {l d c n : Int} (hg : gOk l d c = true) (h0 : 0 ≤ n) (h1 : n < gCap l d c) :
    plOfOk l d c n = true ∧ plOfR l d c n = plRow l d c n ∧ plOfD l d c n = plD l d c (plRow l d c n) (n / c % (d - (l - 4))) ∧ plDok l d c (plRow l d c n) (n / c % (d - (l - 4))) = true := by
  obtain ⟨a, b, k0, k1, _, _⟩ := of_row hg h0 h1
  have hok : plOfOk l d c n = true := decide_eq_true ⟨h0, h1⟩
  exact ⟨hok, by rw [plOfR, if_pos hok], by rw [plOfD, if_pos hok], plDok_mk (plOk_mk hg a b) k0 k1⟩
theorem of_back {l d c n : Int} (hg : gOk l d c = true) (h0 : 0 ≤ n) (h1 : n < gCap l d c) :
    plOfOk l d c n = true ∧ (0 ≤ plOfD l d c n ∧ plOfD l d c n < d) ∧ (0 ≤ plOfR l d c n ∧ plOfR l d c n < 16) ∧ plBOk l d c (plOfD l d c n) (plOfR l d c n) = true ∧ plBk l d c (plOfD l d c n) (plOfR l d c n) = 0 ∧ plBn l d c (plOfD l d c n) (plOfR l d c n) = n := by
  obtain ⟨a, b, k0, k1, _, hN⟩ := of_row hg h0 h1
  obtain ⟨hok, hr, hd, hk⟩ := of_yes hg h0 h1
  obtain ⟨b1, b2, b3⟩ := back_data hk
  obtain ⟨d0, d1, _, _⟩ := data_ne hk
  rw [hr, hd]
  exact ⟨hok, ⟨d0, d1⟩, ⟨a, b⟩, b1, b2, by rw [b3]; exact hN⟩
theorem of_num {l d c r k : Int} (h : plDok l d c r k = true) : plOfOk l d c (plN l d c r k) = true ∧ plOfD l d c (plN l d c r k) = plD l d c r k ∧ plOfR l d c (plN l d c r k) = r := by
  have hg := (plOk_yes (plDok_yes h).1).1
  obtain ⟨n0, n1, hr, hk⟩ := num_row h
  obtain ⟨hok, h2, h3, _⟩ := of_yes hg n0 n1
  refine ⟨hok, ?_, ?_⟩
  · rw [h3, hr, hk]
  · rw [h2, hr]
/-- Neighbours in a chunk. -/
theorem of_next {l d c n : Int} (hg : gOk l d c = true) (h0 : 0 ≤ n) (h1 : n < gCap l d c) :
    plOfOk l d c (n + 1) = decide (n + 1 < gCap l d c) ∧ ((n + 1) % c = 0 ∨ (plOfD l d c n = plOfD l d c (n + 1) ∧ plOfR l d c (n + 1) = plOfR l d c n + 1)) := by
  refine ⟨?_, ?_⟩
  · by_cases h : n + 1 < gCap l d c
    · rw [decide_eq_true h]; exact decide_eq_true ⟨by omega, h⟩
    · rw [decide_eq_false h]; exact decide_eq_false (by omega)
  · by_cases hm : (n + 1) % c = 0
    · exact .inl hm
    · right
      have h2 : n + 1 < gCap l d c := by
        obtain ⟨hw, hc⟩ := wd_cases hg
        rw [gCap_yes hg] at h1 ⊢
        rcases hc with rfl | rfl | rfl <;> omega
      obtain ⟨_, hr, hd, hk⟩ := of_yes hg h0 h1
      obtain ⟨_, hr', hd', hk'⟩ := of_yes hg (show 0 ≤ n + 1 by omega) h2
      obtain ⟨_, _, _, _, hq, _⟩ := of_row hg h0 h1
      obtain ⟨_, _, _, _, hq', _⟩ := of_row hg (show 0 ≤ n + 1 by omega) h2
      have hcc : (n + 1) / c = n / c ∧ (n + 1) % c = n % c + 1 := by
        obtain ⟨hw, hc⟩ := wd_cases hg
        rcases hc with rfl | rfl | rfl <;> omega
      have hrow : plRow l d c (n + 1) = plRow l d c n + 1 := by unfold plRow; rw [hcc.1, hcc.2]; omega
      rw [hd, hd', hr, hr']
      refine ⟨?_, hrow⟩
      rw [plD_yes hk, plD_yes hk']
      unfold plF
      rw [hq, hq', hcc.1]
end Go.Proofs.Ytadfimimkkimmaa
end
section
namespace Go.Proofs.Ytadfimimkkimmaa

theorem ext_getD {a b : List (List UInt8)} (h : a.length = b.length) (hk : ∀ k, k < a.length → a.getD k [] = b.getD k []) : a = b := by
  apply List.ext_getElem h
  intro k h1 h2
  have := hk k h1
  simpa [h1, h2] using this
theorem two_sorted {ms : List Nat} {i j : Nat} (hs : ms.Pairwise (· < ·)) (hij : i < j) (hm : ∀ k, k ∈ ms ↔ k = i ∨ k = j) : ms = [i, j] := by
  have mi := (hm i).2 (.inl rfl)
  have mj := (hm j).2 (.inr rfl)
  rcases ms with _ | ⟨c, _ | ⟨d, _ | ⟨e, r⟩⟩⟩
  · simp at mi
  · simp at mi mj; omega
  · have h1 := (hm c).1 (by simp)
    have h2 := (hm d).1 (by simp)
    simp at hs
    have : c = i ∧ d = j := by omega
    rw [this.1, this.2]
  · have h1 := (hm c).1 (by simp)
    have h2 := (hm d).1 (by simp)
    have h3 := (hm e).1 (by simp)
    simp at hs
    omega
theorem missB_two (p q : List UInt8) : missB [p, q] = (if p.length = 0 then [0] else []) ++ (if q.length = 0 then [1] else []) := by
  show missTo [p, q] (0 + 1 + 1) = _
  rw [missTo_succ, missTo_succ]
  show (if q.length = 0 then (if p.length = 0 then missTo [p, q] 0 ++ [0] else missTo [p, q] 0) ++ [0 + 1] else if p.length = 0 then missTo [p, q] 0 ++ [0] else missTo [p, q] 0) = _
  have e : missTo [p, q] 0 = [] := rfl
  rw [e]
  by_cases h1 : p.length = 0 <;> by_cases h2 : q.length = 0 <;> simp [h1, h2]
theorem getD_set_other {rs : List (List UInt8)} {i k : Nat} {r : List UInt8} (h : i ≠ k) : (rs.set i r).getD k [] = rs.getD k [] := by
  simp [List.getElem?_set_ne h]
theorem getD_set_same {rs : List (List UInt8)} {i : Nat} {r : List UInt8} (h : i < rs.length) : (rs.set i r).getD i [] = r := by
  simp [h]

section
variable {N : Nat} {fs rs : List (List UInt8)}
/-- Rows, some of them taken away. -/
structure Lacks (N : Nat) (fs rs : List (List UInt8)) : Prop where
  pos : 1 ≤ N
  alike : ∀ r ∈ fs, r.length = N
  len : rs.length = fs.length
  row : ∀ k, k < fs.length → (rs.getD k []).length = 0 ∨ rs.getD k [] = fs.getD k []
theorem Lacks.full (h : Lacks N fs rs) {k : Nat} (hk : k < fs.length) : (fs.getD k []).length = N := h.alike _ (by simp [hk])
theorem Lacks.sized (h : Lacks N fs rs) : sizedB N rs = true := sizedB_iff.2 fun k hk => by
  rcases h.row k (by rw [← h.len]; exact hk) with h1 | h1
  · exact .inl h1
  · exact .inr (by rw [h1]; exact h.full (by rw [← h.len]; exact hk))
theorem Lacks.filled_zero (h : Lacks N fs rs) {k : Nat} (hk : k ∈ missB rs) : Holed N (filledB N rs) k := by
  obtain ⟨h1, h2⟩ := missTo_mem.1 hk
  refine ⟨by rw [filledB_len]; exact h1, ?_, filledB_mem h.sized⟩
  rw [filledB_get N rs h1]
  unfold fillR
  rw [if_pos h2]
theorem Lacks.filled_there (h : Lacks N fs rs) {k : Nat} (hf : k < fs.length) (hk : k ∉ missB rs) : (filledB N rs).getD k [] = fs.getD k [] := by
  have hl : k < rs.length := by rw [h.len]; exact hf
  have h2 : ¬ (rs.getD k []).length = 0 := fun e => hk (missTo_mem.2 ⟨hl, e⟩)
  rw [filledB_get N rs hl]
  unfold fillR
  rw [if_neg h2]
  rcases h.row k hf with h3 | h3
  · exact absurd h3 h2
  · exact h3
theorem Lacks.ask (h : Lacks N fs rs) {p q : List UInt8} (hp : p.length = 0 ∨ p.length = N) (hq : q.length = 0 ∨ q.length = N) : askB N p q rs = true := by
  have h1 : sizedB N [p, q] = true := sizedB_iff.2 fun k hk => by
    match k, hk with
    | 0, _ => exact hp
    | 1, _ => exact hq
  unfold askB
  rw [h1, h.sized, decide_eq_true h.pos]
  rfl
theorem Lacks.can (h : Lacks N fs rs) {p q : List UInt8} (h0 : 0 < fs.length) (h8 : fs.length ≤ 8) (hm : (missB rs).length ≤ 2 - (missB [p, q]).length) : canB p q rs = true := by
  unfold canB
  rw [decide_eq_true hm, decide_eq_true (show 0 < rs.length by rw [h.len]; exact h0), decide_eq_true (show rs.length ≤ 8 by rw [h.len]; exact h8)]
  rfl
/-- What some had is told by P and Q. -/
theorem solveB_back (h : Lacks N fs rs) (h0 : 0 < fs.length) (h8 : fs.length ≤ 8) {p q : List UInt8} (hp : p.length = 0 ∨ p = pB fs) (hq : q.length = 0 ∨ q = qB fs) (hm : (missB rs).length ≤ 2 - (missB [p, q]).length) : solveB N p q rs = some fs := by
  have lp : p.length = 0 ∨ p.length = N := hp.imp id fun e => by rw [e]; exact pB_len h0 h.alike
  have lq : q.length = 0 ∨ q.length = N := hq.imp id fun e => by rw [e]; exact qB_len h0 h.alike
  unfold solveB
  rw [h.ask lp lq, h.can h0 h8 hm]
  show some (toldB p q (filledB N rs) (missB rs)) = some fs
  congr 1
  have hfl : (filledB N rs).length = fs.length := by rw [filledB_len]; exact h.len
  have hz := fun k hk => h.filled_zero (k := k) hk
  have ht := fun k hf hk => h.filled_there (k := k) hf hk
  have hs := missTo_sorted rs rs.length
  rw [show missTo rs rs.length = missB rs from rfl] at hs
  rw [missB_two] at hm
  generalize filledB N rs = all at hfl hz ht
  generalize missB rs = ms at hm hz ht hs
  rcases ms with _ | ⟨i, _ | ⟨j, r⟩⟩
  · show all = fs
    exact ext_getD hfl fun k hk => ht k (by omega) (by simp)
  · have hi := hz i (by simp)
    have hif : i < fs.length := by rw [← hfl]; exact hi.lt
    have e : all.set i (fs.getD i []) = fs := ext_getD (by rw [List.length_set]; exact hfl) fun k hk => by
      rw [List.length_set] at hk
      by_cases hik : i = k
      · subst hik; exact getD_set_same hk
      · rw [getD_set_other hik]
        exact ht k (by omega) (by simpa using fun e => hik e.symm)
    show all.set i (if p.length ≠ 0 then byPB p all else byQB q all i) = fs
    by_cases hp0 : p.length = 0
    · rw [if_neg (fun f => f hp0)]
      have hq0 : ¬ q.length = 0 := fun hq0 => by
        rw [if_pos hp0, if_pos hq0] at hm
        simp at hm
      rcases hq with hq1 | hq1
      · exact absurd hq1 hq0
      · rw [hq1]
        have := byQB_only hi (h.full hif)
        rw [e] at this
        rw [this, e]
    · rw [if_pos hp0]
      rcases hp with hp1 | hp1
      · exact absurd hp1 hp0
      · rw [hp1]
        have := byPB_only hi (h.full hif)
        rw [e] at this
        rw [this, e]
  · have hi := hz i (by simp)
    have hj := hz j (by simp)
    have hif : i < fs.length := by rw [← hfl]; exact hi.lt
    have hjf : j < fs.length := by rw [← hfl]; exact hj.lt
    have hij : i < j := by
      rw [List.pairwise_cons] at hs
      exact hs.1 j (by simp)
    have hp0 : ¬ p.length = 0 := fun hp0 => by
      rw [if_pos hp0] at hm
      simp at hm
      omega
    have hq0 : ¬ q.length = 0 := fun hq0 => by
      rw [if_neg hp0, if_pos hq0] at hm
      simp at hm
    rw [if_neg hp0, if_neg hq0] at hm
    have hr : r = [] := by
      simp at hm
      exact hm
    subst hr
    have hp1 := hp.resolve_left hp0
    have hq1 := hq.resolve_left hq0
    have e : (all.set i (fs.getD i [])).set j (fs.getD j []) = fs := ext_getD (by rw [List.length_set, List.length_set]; exact hfl) fun k hk => by
      rw [List.length_set, List.length_set] at hk
      by_cases hjk : j = k
      · subst hjk; exact getD_set_same (by rw [List.length_set]; exact hk)
      · rw [getD_set_other hjk]
        by_cases hik : i = k
        · subst hik; exact getD_set_same hk
        · rw [getD_set_other hik]
          exact ht k (by omega) (by simpa using ⟨fun e => hik e.symm, fun e => hjk e.symm⟩)
    have := both_only hi hj (by omega) (by omega) (by omega) (h.full hif) (h.full hjf)
    rw [e] at this
    show (all.set i (bothA p q all i j)).set j (bothB p q all i j) = fs
    rw [hp1, hq1, this.1, this.2, e]
/-- Any two, of any P and Q. -/
theorem solve_two {x : List (List UInt8)} {a b : Nat} {p q : List UInt8} (hN : 1 ≤ N) (hx : ∀ r ∈ x, r.length = N) (h8 : x.length ≤ 8) (ha : a < x.length) (hb : b < x.length) (hab : a ≠ b) (hp : p.length = N) (hq : q.length = N) :
    ∃ y, solveB N p q ((x.set a []).set b []) = some y ∧ y.length = x.length ∧ (∀ r ∈ y, r.length = N) ∧ (∀ k, k < x.length → k ≠ a → k ≠ b → y.getD k [] = x.getD k []) ∧ pB y = p ∧ qB y = q := by
  have hrow : ∀ k, k < x.length → k ≠ a → k ≠ b → ((x.set a []).set b []).getD k [] = x.getD k [] := fun k hk h1 h2 => by
    rw [getD_set_other (Ne.symm h2), getD_set_other (Ne.symm h1)]
  have hgone : ∀ k, k = a ∨ k = b → ((x.set a []).set b []).getD k [] = [] := fun k hk => by
    by_cases hkb : b = k
    · subst hkb; exact getD_set_same (by rw [List.length_set]; exact hb)
    · rw [getD_set_other hkb]
      rcases hk with rfl | rfl
      · exact getD_set_same ha
      · exact absurd rfl hkb
  have h : Lacks N x ((x.set a []).set b []) := ⟨hN, hx, by rw [List.length_set, List.length_set], fun k hk => by
    by_cases h1 : k = a
    · exact .inl (by rw [hgone k (.inl h1)]; rfl)
    · by_cases h2 : k = b
      · exact .inl (by rw [hgone k (.inr h2)]; rfl)
      · exact .inr (hrow k hk h1 h2)⟩
  have hmem : ∀ k, k ∈ missB ((x.set a []).set b []) ↔ k = a ∨ k = b := fun k => by
    constructor
    · intro hk
      obtain ⟨h1, h2⟩ := missTo_mem.1 hk
      rw [List.length_set, List.length_set] at h1
      by_cases ha' : k = a
      · exact .inl ha'
      · by_cases hb' : k = b
        · exact .inr hb'
        · rw [hrow k h1 ha' hb', h.full h1] at h2
          omega
    · intro hk
      refine missTo_mem.2 ⟨?_, by rw [hgone k hk]; rfl⟩
      rw [List.length_set, List.length_set]
      rcases hk with rfl | rfl <;> assumption
  obtain ⟨i, j, hij, hms, hset⟩ : ∃ i j, i < j ∧ missB ((x.set a []).set b []) = [i, j] ∧ (∀ k, k = i ∨ k = j ↔ k = a ∨ k = b) := by
    by_cases hlt : a < b
    · exact ⟨a, b, hlt, two_sorted (missTo_sorted _ _) hlt hmem, fun k => Iff.rfl⟩
    · exact ⟨b, a, by omega, two_sorted (missTo_sorted _ _) (by omega) fun k => (hmem k).trans or_comm, fun k => or_comm⟩
  have h1 : missB [p, q] = [] := by rw [missB_two, if_neg (by omega), if_neg (by omega)]; rfl
  have hi := h.filled_zero (k := i) (by rw [hms]; simp)
  have hj := h.filled_zero (k := j) (by rw [hms]; simp)
  have hfl : (filledB N ((x.set a []).set b [])).length = x.length := by rw [filledB_len]; exact h.len
  have ht := fun k hf hk => h.filled_there (k := k) hf hk
  have hsv : solveB N p q ((x.set a []).set b []) = some (toldB p q (filledB N ((x.set a []).set b [])) [i, j]) := by
    unfold solveB
    rw [h.ask (.inr hp) (.inr hq), h.can (by omega) h8 (by rw [hms, h1]; simp), hms]
    rfl
  rw [hms] at ht
  refine ⟨_, hsv, ?_⟩
  generalize filledB N ((x.set a []).set b []) = all at hi hj hfl ht
  obtain ⟨_, lb, _, la⟩ := both_shape (j := j) hi hp hq
  have hlen := hi.lt
  have hlen2 := hj.lt
  refine ⟨?_, ?_, ?_, both_p hi hj (by omega) hp hq, both_q hi hj (by omega) (by omega) (by omega) hp hq⟩
  · show ((all.set i _).set j _).length = _
    rw [List.length_set, List.length_set]; exact hfl
  · exact set_alike (set_alike hi.all la) lb
  · intro k hk h1 h2
    have hki : ¬ (k = i ∨ k = j) := fun e => ((hset k).1 e).elim h1 h2
    show ((all.set i _).set j _).getD k [] = _
    rw [getD_set_other (fun e => hki (.inr e.symm)), getD_set_other (fun e => hki (.inl e.symm))]
    exact ht k hk (by simpa using ⟨fun e => hki (.inl e), fun e => hki (.inr e)⟩)
end
end Go.Proofs.Ytadfimimkkimmaa
end
section
set_option linter.unusedVariables false
set_option linter.unusedSimpArgs false
namespace Go.Proofs.Ytadfimimkkimmaa

/-- The disk of part k (the data, then P, then Q); the part that a disk has. -/
def roS (D F k : Nat) : Nat := if F + k < D then F + k else F + k - D
def roI (D F i : Nat) : Nat := if F ≤ i then i - F else i + D - F
theorem roS_lt {D F k : Nat} (hF : F < D) (hk : k < D) : roS D F k < D := by unfold roS; split <;> omega
theorem roI_lt {D F i : Nat} (hF : F < D) (hi : i < D) : roI D F i < D := by unfold roI; split <;> omega
theorem roI_roS {D F k : Nat} (hF : F < D) (hk : k < D) : roI D F (roS D F k) = k := by unfold roI roS; split <;> split <;> omega
theorem roS_roI {D F i : Nat} (hF : F < D) (hi : i < D) : roS D F (roI D F i) = i := by unfold roI roS; split <;> split <;> omega
theorem roS_inj {D F j k : Nat} (hF : F < D) (hj : j < D) (hk : k < D) (h : roS D F j = roS D F k) : j = k := by
  rw [← roI_roS hF hj, h, roI_roS hF hk]
/-- All parts: data, P, Q. -/
def allL (rs : List (List UInt8)) : List (List UInt8) := rs ++ [pB rs, qB rs]
theorem allL_data {rs : List (List UInt8)} {k : Nat} (hk : k < rs.length) : (allL rs).getD k [] = rs.getD k [] := by
  simp [allL, List.getD_eq_getElem?_getD, List.getElem?_append_left hk]
theorem allL_p (rs : List (List UInt8)) : (allL rs).getD rs.length [] = pB rs := by
  simp [allL, List.getD_eq_getElem?_getD, List.getElem?_append_right]
theorem allL_q (rs : List (List UInt8)) : (allL rs).getD (rs.length + 1) [] = qB rs := by
  simp [allL, List.getD_eq_getElem?_getD, List.getElem?_append_right]
/-- The disks' sectors as far as part k. -/
def fillTo2 (D F : Nat) (rs : List (List UInt8)) (k : Nat) : List (List UInt8) := (List.range D).map fun i => if roI D F i < k then (allL rs).getD (roI D F i) [] else []
def fillL (D F : Nat) (rs : List (List UInt8)) : List (List UInt8) := fillTo2 D F rs D
theorem fillTo2_len (D F : Nat) (rs : List (List UInt8)) (k : Nat) : (fillTo2 D F rs k).length = D := by simp [fillTo2]
theorem fillL_len (D F : Nat) (rs : List (List UInt8)) : (fillL D F rs).length = D := fillTo2_len _ _ _ _
theorem fillTo2_get {D F : Nat} {rs : List (List UInt8)} {k i : Nat} (hi : i < D) : (fillTo2 D F rs k).getD i [] = if roI D F i < k then (allL rs).getD (roI D F i) [] else [] := by
  simp [fillTo2, List.getD_eq_getElem?_getD, hi]
theorem fillL_get {D F : Nat} {rs : List (List UInt8)} {i : Nat} (hF : F < D) (hi : i < D) : (fillL D F rs).getD i [] = (allL rs).getD (roI D F i) [] := by
  unfold fillL
  rw [fillTo2_get hi, if_pos (roI_lt hF hi)]
theorem fillL_at {D F : Nat} {rs : List (List UInt8)} {k : Nat} (hF : F < D) (hk : k < D) : (fillL D F rs).getD (roS D F k) [] = (allL rs).getD k [] := by
  rw [fillL_get hF (roS_lt hF hk), roI_roS hF hk]
theorem fillTo2_zero (D F : Nat) (rs : List (List UInt8)) : fillTo2 D F rs 0 = List.replicate D [] := by
  apply List.ext_getElem (by simp [fillTo2])
  intro i h1 h2
  simp [fillTo2]
theorem fillTo2_succ {D F : Nat} {rs : List (List UInt8)} {k : Nat} (hF : F < D) (hk : k < D) : (fillTo2 D F rs k).set (roS D F k) ((allL rs).getD k []) = fillTo2 D F rs (k + 1) := by
  apply ext_getD (by rw [List.length_set, fillTo2_len, fillTo2_len])
  intro i hi
  rw [List.length_set, fillTo2_len] at hi
  rw [fillTo2_get hi]
  by_cases e : roS D F k = i
  · subst e
    rw [getD_set_same (by rw [fillTo2_len]; exact hi), roI_roS hF hk, if_pos (by omega)]
  · rw [getD_set_other e, fillTo2_get hi]
    have hne : roI D F i ≠ k := fun h => e (by rw [← h]; exact roS_roI hF hi)
    by_cases h : roI D F i < k
    · rw [if_pos h, if_pos (by omega)]
    · rw [if_neg h, if_neg (by omega)]

/-- Which geometry, which row: the disk of data chunk 0, how many disks, how many of data. -/
def roF (l d c r : Int) : Nat := (plF l d c r).toNat
def roD (d : Int) : Nat := d.toNat
def roW (l d : Int) : Nat := (d - (l - 4)).toNat
structure Ro (l d c r : Int) : Prop where
  hF : roF l d c r < roD d
  hW : roW l d < roD d
  w1 : 1 ≤ roW l d
  w7 : roW l d ≤ 7
  d8 : roD d ≤ 8
  d3 : 3 ≤ roD d
  dd : ((roD d : Nat) : Int) = d
  wd : gWid l d c = ((roW l d : Nat) : Int)
  lv : (l = 5 ∧ roD d = roW l d + 1) ∨ (l = 6 ∧ roD d = roW l d + 2)
  pP : plP l d c r = ((roS (roD d) (roF l d c r) (roW l d) : Nat) : Int)
  pQ : plQ l d c r = if l = 6 then ((roS (roD d) (roF l d c r) (roW l d + 1) : Nat) : Int) else -1
  pD : ∀ k : Nat, k < roW l d → plD l d c r (k : Int) = ((roS (roD d) (roF l d c r) k : Nat) : Int)
theorem emod_two {x d : Int} (h0 : 0 ≤ x) (h1 : x < d + d) : x % d = if x < d then x else x - d := by
  split
  · exact Int.emod_eq_of_lt h0 (by omega)
  · have h : x = (x - d) + d := by omega
    rw [h, Int.add_emod_right]
    rw [Int.emod_eq_of_lt (by omega) (by omega)]
    omega
theorem emod_sub {x d : Int} (h0 : -d ≤ x) (h1 : x < 0) : x % d = x + d := by
  rw [← Int.add_emod_right, Int.emod_eq_of_lt (by omega) (by omega)]
theorem ro_of {l d c r : Int} (h : plOk l d c r = true) : Ro l d c r := by
  obtain ⟨hg, h0, h1⟩ := plOk_yes h
  have hb := gOk_bd hg
  have hl := (gOk_yes hg).1
  have hp := plP_yes h
  have hm := rem_bd (r / c) (show 1 ≤ d by omega)
  have hF := plF_bd l c r (show 1 ≤ d by omega)
  have hFe : plF l d c r = (d - 1 - r / c % d + (l - 4)) % d := rfl
  have hFe2 := emod_two (x := d - 1 - r / c % d + (l - 4)) (d := d) (by omega) (by omega)
  rw [hFe2] at hFe
  have e1 : ((roD d : Nat) : Int) = d := by unfold roD; omega
  have e2 : ((roF l d c r : Nat) : Int) = plF l d c r := by unfold roF; omega
  have e3 : ((roW l d : Nat) : Int) = d - (l - 4) := by unfold roW; omega
  have hroS : ∀ k : Nat, k < roD d → ((roS (roD d) (roF l d c r) k : Nat) : Int) = (plF l d c r + k) % d := fun k hk => by
    rw [emod_two (by omega) (by omega)]
    unfold roS
    split <;> split <;> omega
  refine ⟨by omega, by omega, by omega, by omega, by omega, by omega, e1, by rw [gWid_yes hg, e3], ?_, ?_, ?_, ?_⟩
  · rcases hl with h | h
    · exact .inl ⟨h.1, by omega⟩
    · exact .inr ⟨h.1, by omega⟩
  · rw [hp, hroS _ (by omega)]
    generalize r / c % d = q at hm hFe ⊢
    generalize plF l d c r = f at hF hFe ⊢
    clear hFe2 hroS
    rw [emod_two (by omega) (by omega)]
    split at hFe <;> split <;> omega
  · by_cases h6 : l = 6
    · rw [if_pos h6, hroS _ (by omega)]
      subst h6
      rw [plQ_6 h]
      generalize r / c % d = q at hm hFe ⊢
      generalize plF 6 d c r = f at hF hFe ⊢
      clear hFe2 hroS
      rw [emod_two (by omega) (by omega), emod_two (by omega) (by omega)]
      split at hFe <;> split <;> split <;> omega
    · rw [if_neg h6]
      obtain rfl : l = 5 := by omega
      exact plQ_5
  · intro k hk
    rw [hroS k (by omega), plD_yes (plDok_mk h (by omega) (by omega))]

def fillOk (l d c r : Int) (rs : List (List UInt8)) : Bool := plOk l d c r && (decide (rs.length = roW l d) && rs.all fun x => x.length == 32)
def roFill (l d c r : Int) (rs : List (List UInt8)) : Option (List (List UInt8)) := if fillOk l d c r rs = true then some (fillL (roD d) (roF l d c r) rs) else none
/-- The data chunks' sectors of the disks' ones. -/
def dataL (l d c r : Int) (xs : List (List UInt8)) : List (List UInt8) := (List.range (roW l d)).map fun k => xs.getD (roS (roD d) (roF l d c r) k) []
def parL (l d c r : Int) (xs : List (List UInt8)) : List UInt8 := xs.getD (roS (roD d) (roF l d c r) (roW l d)) []
def parQ (l d c r : Int) (xs : List (List UInt8)) : List UInt8 := if l = 6 then xs.getD (roS (roD d) (roF l d c r) (roW l d + 1)) [] else []
def roTake (l d c r : Int) (xs : List (List UInt8)) : Option (List (List UInt8)) :=
  if (plOk l d c r && decide (xs.length = roD d)) = true then solveB 32 (parL l d c r xs) (parQ l d c r xs) (dataL l d c r xs) else none
def roRight (l d c r : Int) (xs : List (List UInt8)) : Bool :=
  match roTake l d c r xs with
  | none => false
  | some rs => decide (roFill l d c r rs = some xs)
theorem fillOk_yes {l d c r : Int} {rs : List (List UInt8)} (h : fillOk l d c r rs = true) : plOk l d c r = true ∧ rs.length = roW l d ∧ ∀ x ∈ rs, x.length = 32 := by
  unfold fillOk at h
  simp only [Bool.and_eq_true, decide_eq_true_eq, List.all_eq_true, beq_iff_eq] at h
  exact ⟨h.1, h.2.1, h.2.2⟩
theorem fillOk_mk {l d c r : Int} {rs : List (List UInt8)} (h : plOk l d c r = true) (hl : rs.length = roW l d) (ha : ∀ x ∈ rs, x.length = 32) : fillOk l d c r rs = true := by
  unfold fillOk
  simp only [Bool.and_eq_true, decide_eq_true_eq, List.all_eq_true, beq_iff_eq]
  exact ⟨h, hl, ha⟩
theorem roFill_yes {l d c r : Int} {rs : List (List UInt8)} (h : fillOk l d c r rs = true) : roFill l d c r rs = some (fillL (roD d) (roF l d c r) rs) := if_pos h
theorem roFill_no {l d c r : Int} {rs : List (List UInt8)} (h : ¬ fillOk l d c r rs = true) : roFill l d c r rs = none := if_neg h
theorem dataL_len (l d c r : Int) (xs : List (List UInt8)) : (dataL l d c r xs).length = roW l d := by simp [dataL]
theorem dataL_get {l d c r : Int} {xs : List (List UInt8)} {k : Nat} (hk : k < roW l d) : (dataL l d c r xs).getD k [] = xs.getD (roS (roD d) (roF l d c r) k) [] := by
  simp [dataL, List.getD_eq_getElem?_getD, hk]
theorem roTake_yes {l d c r : Int} {xs : List (List UInt8)} (h : plOk l d c r = true) (hl : xs.length = roD d) : roTake l d c r xs = solveB 32 (parL l d c r xs) (parQ l d c r xs) (dataL l d c r xs) := by
  unfold roTake; rw [h, decide_eq_true hl]; rfl
theorem mem_getD {rs : List (List UInt8)} {N k : Nat} (h : ∀ r ∈ rs, r.length = N) (hk : k < rs.length) : (rs.getD k []).length = N := h _ (by simp [hk])
/-- All parts have a sector's bytes. -/
theorem allL_32 {rs : List (List UInt8)} (h0 : 0 < rs.length) (h : ∀ x ∈ rs, x.length = 32) {k : Nat} (hk : k < rs.length + 2) : ((allL rs).getD k []).length = 32 := by
  by_cases h1 : k < rs.length
  · rw [allL_data h1]; exact mem_getD h h1
  · by_cases h2 : k = rs.length
    · subst h2; rw [allL_p]; exact pB_len h0 h
    · obtain rfl : k = rs.length + 1 := by omega
      rw [allL_q]; exact qB_len h0 h
/-- Of a row some of whose sectors are missing, not more than may be. -/
theorem take_back {l d c r : Int} {rs xs : List (List UInt8)} (h : fillOk l d c r rs = true) (hl : xs.length = roD d) (hx : ∀ i, i < roD d → (xs.getD i []).length = 0 ∨ xs.getD i [] = (fillL (roD d) (roF l d c r) rs).getD i [])
    (hm : (missB (dataL l d c r xs)).length ≤ 2 - (missB [parL l d c r xs, parQ l d c r xs]).length) : roTake l d c r xs = some rs := by
  obtain ⟨hk, hn, ha⟩ := fillOk_yes h
  have R := ro_of hk
  have hw1 := R.w1; have hw7 := R.w7; have hW := R.hW; have hlv := R.lv
  have at_ : ∀ k, k < roD d → (xs.getD (roS (roD d) (roF l d c r) k) []).length = 0 ∨ xs.getD (roS (roD d) (roF l d c r) k) [] = (allL rs).getD k [] := fun k hk => by
    have := hx _ (roS_lt R.hF hk)
    rwa [fillL_at R.hF hk] at this
  rw [roTake_yes hk hl]
  refine solveB_back ⟨by omega, ha, by rw [dataL_len, hn], fun k hk => ?_⟩ (by omega) (by omega) ?_ ?_ hm
  · rw [dataL_get (by omega), ← allL_data hk]; exact at_ k (by omega)
  · have := at_ (roW l d) (by omega)
    rw [← hn, allL_p, hn] at this
    exact this
  · unfold parQ
    split
    · next h6 =>
      have := at_ (roW l d + 1) (by omega)
      rw [← hn, allL_q, hn] at this
      exact this
    · exact .inl rfl
/-- Where nothing is missing all is as it is. -/
theorem missB_nil {rs : List (List UInt8)} (h : ∀ k, k < rs.length → (rs.getD k []).length = 32) : missB rs = [] := by
  apply List.eq_nil_iff_forall_not_mem.2
  intro j hj
  obtain ⟨h1, h2⟩ := missTo_mem.1 hj
  rw [h j h1] at h2
  omega
theorem solve_none {p q : List UInt8} {rs : List (List UInt8)} (h : ∀ x ∈ rs, x.length = 32) (h0 : 0 < rs.length) (h8 : rs.length ≤ 8) (hp : p.length = 0 ∨ p.length = 32) (hq : q.length = 0 ∨ q.length = 32) : solveB 32 p q rs = some rs := by
  have L : Lacks 32 rs rs := ⟨by omega, h, rfl, fun k _ => .inr rfl⟩
  have hm : missB rs = [] := missB_nil fun k hk => mem_getD h hk
  unfold solveB
  rw [L.ask hp hq, L.can h0 h8 (by rw [hm]; simp), hm]
  show some (filledB 32 rs) = some rs
  congr 1
  exact ext_getD (filledB_len _ _) fun k hk => L.filled_there (by rwa [filledB_len] at hk) (by rw [hm]; simp)
theorem take_none {l d c r : Int} {xs : List (List UInt8)} (h : plOk l d c r = true) (hl : xs.length = roD d) (hx : ∀ i, i < roD d → (xs.getD i []).length = 32) : roTake l d c r xs = some (dataL l d c r xs) := by
  have R := ro_of h
  have hw1 := R.w1; have hw7 := R.w7; have hW := R.hW; have hlv := R.lv
  rw [roTake_yes h hl]
  refine solve_none (fun x hx' => ?_) (by rw [dataL_len]; omega) (by rw [dataL_len]; omega) (.inr (hx _ (roS_lt R.hF hW))) ?_
  · obtain ⟨k, hk, rfl⟩ := List.getElem_of_mem hx'
    have hk' : k < roW l d := by rwa [dataL_len] at hk
    have := dataL_get (c := c) (r := r) (xs := xs) hk'
    rw [List.getD_eq_getElem?_getD, List.getElem?_eq_getElem hk] at this
    rw [show (dataL l d c r xs)[k] = _ from this]
    exact hx _ (roS_lt R.hF (by omega))
  · unfold parQ
    split
    · exact .inr (hx _ (roS_lt R.hF (by omega)))
    · exact .inl rfl
theorem dataL_fill {l d c r : Int} {rs : List (List UInt8)} (h : fillOk l d c r rs = true) : dataL l d c r (fillL (roD d) (roF l d c r) rs) = rs := by
  obtain ⟨hk, hn, ha⟩ := fillOk_yes h
  have R := ro_of hk
  have hW := R.hW
  refine ext_getD (by rw [dataL_len, hn]) fun k hk => ?_
  rw [dataL_len] at hk
  rw [dataL_get hk, fillL_at R.hF (by omega), allL_data (by omega)]
theorem fill_32 {l d c r : Int} {rs : List (List UInt8)} (h : fillOk l d c r rs = true) {i : Nat} (hi : i < roD d) : ((fillL (roD d) (roF l d c r) rs).getD i []).length = 32 := by
  obtain ⟨hk, hn, ha⟩ := fillOk_yes h
  have R := ro_of hk
  have hw1 := R.w1; have hlv := R.lv
  have := roI_lt R.hF hi
  rw [fillL_get R.hF hi]
  exact allL_32 (by omega) ha (by omega)
theorem row_right {l d c r : Int} {rs : List (List UInt8)} (h : fillOk l d c r rs = true) : roRight l d c r (fillL (roD d) (roF l d c r) rs) = true := by
  obtain ⟨hk, hn, ha⟩ := fillOk_yes h
  unfold roRight
  rw [take_none hk (fillL_len _ _ _) (fun i hi => fill_32 h hi), dataL_fill h]
  exact decide_eq_true (roFill_yes h)
theorem right_no {l d c r : Int} {xs : List (List UInt8)} (h : roTake l d c r xs = none) : roRight l d c r xs = false := by unfold roRight; rw [h]
/-- What Fill gives has no empty sector. -/
theorem row_missing {l d c r : Int} {xs : List (List UInt8)} {i : Nat} (hi : i < roD d) (h : (xs.getD i []).length = 0) : roRight l d c r xs = false := by
  unfold roRight
  split
  · rfl
  · next rs _ =>
    refine decide_eq_false fun e => ?_
    by_cases hf : fillOk l d c r rs = true
    · rw [roFill_yes hf] at e
      injection e with e
      have := fill_32 hf hi
      rw [e, h] at this
      omega
    · rw [roFill_no hf] at e; cases e
/-- A part of a sum, changed. -/
theorem set_set_get {rs : List (List UInt8)} {k : Nat} (y : List UInt8) : (rs.set k (zeroL 32)).set k y = rs.set k y := by simp
theorem sum_parts {g : Nat → List UInt8 → List UInt8} (hg : ∀ k r, (g k r).length = r.length) (h0 : ∀ k, g k (zeroL 32) = zeroL 32) {rs : List (List UInt8)} (ha : ∀ x ∈ rs, x.length = 32) {k : Nat} (hk : k < rs.length) :
    ∃ s : List UInt8, s.length = 32 ∧ ∀ y : List UInt8, y.length = 32 → sumG g (rs.set k y) = xorL s (g k y) := by
  have ha0 := set_alike (i := k) ha (zeroL_len 32)
  refine ⟨sumG g (rs.set k (zeroL 32)), (sumG_len hg (alikeB_of (by rw [List.length_set]; omega) ha0).1).trans (alikeB_of (by rw [List.length_set]; omega) ha0).2, fun y hy => ?_⟩
  rw [← set_set_get y]
  exact sumG_set hg h0 (by rw [List.length_set]; exact hk) (getD_set_same hk) hy ha0
theorem set_self {rs : List (List UInt8)} {k : Nat} (hk : k < rs.length) : rs.set k (rs.getD k []) = rs := ext_getD (by rw [List.length_set]) fun j hj => by
  by_cases e : k = j
  · subst e; exact getD_set_same hk
  · exact getD_set_other e
theorem xorL_mid {s x y : List UInt8} (hs : s.length = 32) (hx : x.length = 32) (hy : y.length = 32) : xorL (xorL s x) (xorL s y) = xorL x y := by
  rw [xorL_comm s x, xorL_assoc, xorL_left (hs.trans hy.symm)]
/-- One data sector changed: what all parts change by. -/
theorem change_p {rs : List (List UInt8)} (ha : ∀ x ∈ rs, x.length = 32) {k : Nat} (hk : k < rs.length) {y : List UInt8} (hy : y.length = 32) : xorL (pB rs) (pB (rs.set k y)) = xorL (rs.getD k []) y := by
  obtain ⟨s, hs, H⟩ := sum_parts gP_len (gP_zero 32) ha hk
  have h1 := H _ (mem_getD ha hk)
  rw [set_self hk] at h1
  show xorL (sumG gP rs) (sumG gP (rs.set k y)) = _
  rw [h1, H y hy]
  exact xorL_mid hs (mem_getD ha hk) hy
theorem change_q {rs : List (List UInt8)} (ha : ∀ x ∈ rs, x.length = 32) {k : Nat} (hk : k < rs.length) {y : List UInt8} (hy : y.length = 32) : xorL (qB rs) (qB (rs.set k y)) = scaleL (xorL (rs.getD k []) y) (gpow k) := by
  obtain ⟨s, hs, H⟩ := sum_parts gQ_len (gQ_zero 32) ha hk
  have h1 := H _ (mem_getD ha hk)
  rw [set_self hk] at h1
  show xorL (sumG gQ rs) (sumG gQ (rs.set k y)) = _
  rw [h1, H y hy, xorL_mid hs ((gQ_len _ _).trans (mem_getD ha hk)) ((gQ_len _ _).trans hy), scaleL_xorL]
  rfl
theorem xorL_nil_eq {x y : List UInt8} (hx : x.length = 32) (hy : y.length = 32) (h : xorL x y = zeroL 32) : y = x := by
  have := xorL_left (a := x) (b := y) (hx.trans hy.symm)
  rw [h, xorL_zero x 32 hx] at this
  exact this.symm
/-- A sector turned is found. -/
theorem row_turned {l d c r : Int} {rs : List (List UInt8)} (h : fillOk l d c r rs = true) {i : Nat} (hi : i < roD d) {y : List UInt8} (hy : y.length = 32) (hne : y ≠ (fillL (roD d) (roF l d c r) rs).getD i []) :
    roRight l d c r ((fillL (roD d) (roF l d c r) rs).set i y) = false := by
  obtain ⟨hk, hn, ha⟩ := fillOk_yes h
  have R := ro_of hk
  have hw1 := R.w1; have hlv := R.lv; have hW := R.hW; have hF := R.hF
  have hlen : ((fillL (roD d) (roF l d c r) rs).set i y).length = roD d := by rw [List.length_set, fillL_len]
  have hsame : ((fillL (roD d) (roF l d c r) rs).set i y).getD i [] = y := getD_set_same (by rw [fillL_len]; exact hi)
  unfold roRight
  rw [take_none hk hlen (fun j hj => by
    by_cases e : i = j
    · subst e; rw [hsame]; exact hy
    · rw [getD_set_other e]; exact fill_32 h hj)]
  refine decide_eq_false fun e => ?_
  have hj := roI_lt hF hi
  have hji := roS_roI hF hi
  by_cases hd : roI (roD d) (roF l d c r) i < roW l d
  · have e2 : dataL l d c r ((fillL (roD d) (roF l d c r) rs).set i y) = rs.set (roI (roD d) (roF l d c r) i) y := ext_getD (by rw [dataL_len, List.length_set, hn]) fun k hk => by
      rw [dataL_len] at hk
      rw [dataL_get hk]
      by_cases ek : roI (roD d) (roF l d c r) i = k
      · subst ek; rw [hji, hsame, getD_set_same (by omega)]
      · rw [getD_set_other (fun e3 => ek (by rw [e3]; exact roI_roS hF (by omega))), fillL_at hF (by omega), allL_data (by omega), getD_set_other ek]
    rw [e2] at e
    have hf : fillOk l d c r (rs.set (roI (roD d) (roF l d c r) i) y) = true := fillOk_mk hk (by rw [List.length_set, hn]) (set_alike ha hy)
    rw [roFill_yes hf] at e
    injection e with e
    have e3 := congrArg (fun t : List (List UInt8) => t.getD (roS (roD d) (roF l d c r) (roW l d)) []) e
    have p1 := allL_p (rs.set (roI (roD d) (roF l d c r) i) y)
    rw [List.length_set, hn] at p1
    have p2 := allL_p rs
    rw [hn] at p2
    rw [fillL_at hF hW, getD_set_other (fun e4 => by
      have := roI_roS hF hW
      rw [← e4] at this
      omega), fillL_at hF hW, p1, p2] at e3
    have hc := change_p ha (k := roI (roD d) (roF l d c r) i) (by omega) hy
    rw [e3, xorL_self, pB_len (N := 32) (by omega) ha] at hc
    refine hne ?_
    rw [fillL_get hF hi, allL_data (by omega)]
    exact xorL_nil_eq (mem_getD ha (by omega)) hy hc.symm
  · have e2 : dataL l d c r ((fillL (roD d) (roF l d c r) rs).set i y) = rs := ext_getD (by rw [dataL_len, hn]) fun k hk => by
      rw [dataL_len] at hk
      rw [dataL_get hk, getD_set_other (fun e3 => hd (by rw [e3, roI_roS hF (by omega)]; exact hk)), fillL_at hF (by omega), allL_data (by omega)]
    rw [e2, roFill_yes h] at e
    injection e with e
    have e3 := congrArg (fun t : List (List UInt8) => t.getD i []) e
    rw [hsame] at e3
    exact hne e3.symm
end Go.Proofs.Ytadfimimkkimmaa
end
