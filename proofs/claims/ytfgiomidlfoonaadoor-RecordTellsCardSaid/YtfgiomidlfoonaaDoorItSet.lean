/- One field of an Item of one's own is set. -/
import Derived.Test.YtfgiomidlfoonaaDoorOwnIt
import Derived.Laws.OwnMore
set_option linter.unusedVariables false
set_option linter.unusedSimpArgs false
namespace Go.Proofs.YtfgiomidlfoonaaDoor
open Go.RowKit

theorem itcs_setD : ∀ (l : List It) (xs : List Value) (k : Nat) (d : Int), xs.length = l.length → k < l.length → itcs (l.set k ⟨d, (itN l k).a, (itN l k).b⟩) xs = (itcs l xs).set (k * 3) (.int .i64 d)
  | [], _, _, _, _, hk => by simp at hk
  | _ :: _, [], _, _, h, _ => by simp at h
  | x :: l, v :: xs, 0, d, _, _ => rfl
  | x :: l, v :: xs, k + 1, d, hl, hk => by
    have := itcs_setD l xs k d (by simpa using hl) (by simpa using hk)
    rw [show (k + 1) * 3 = k * 3 + 1 + 1 + 1 from by omega]
    simp only [itcs, List.set_cons_succ]
    rw [← this]; rfl
theorem itcs_setA : ∀ (l : List It) (xs : List Value) (k : Nat) (a : Int), xs.length = l.length → k < l.length → itcs (l.set k ⟨(itN l k).d, a, (itN l k).b⟩) xs = (itcs l xs).set (k * 3 + 1) (.int .i64 a)
  | [], _, _, _, _, hk => by simp at hk
  | _ :: _, [], _, _, h, _ => by simp at h
  | x :: l, v :: xs, 0, d, _, _ => rfl
  | x :: l, v :: xs, k + 1, d, hl, hk => by
    have := itcs_setA l xs k d (by simpa using hl) (by simpa using hk)
    rw [show (k + 1) * 3 + 1 = k * 3 + 1 + 1 + 1 + 1 by omega]
    simp only [itcs, List.set_cons_succ]
    rw [← this]; rfl
theorem itcs_setB : ∀ (l : List It) (xs : List Value) (k : Nat) (b : List UInt8) (u : Value), xs.length = l.length → k < l.length → itcs (l.set k ⟨(itN l k).d, (itN l k).a, b⟩) (xs.set k u) = (itcs l xs).set (k * 3 + 2) u
  | [], _, _, _, _, _, hk => by simp at hk
  | _ :: _, [], _, _, _, h, _ => by simp at h
  | x :: l, v :: xs, 0, d, _, _, _ => rfl
  | x :: l, v :: xs, k + 1, d, u, hl, hk => by
    have := itcs_setB l xs k d u (by simpa using hl) (by simpa using hk)
    rw [show (k + 1) * 3 + 2 = k * 3 + 2 + 1 + 1 + 1 by omega]
    simp only [itcs, List.set_cons_succ]
    rw [← this]; rfl
theorem map_set_same (l : List It) (k : Nat) (x : It) (h : x.b = (itN l k).b) (hk : k < l.length) : (l.set k x).map (·.b) = l.map (·.b) := by
  apply List.ext_getElem (by simp)
  intro n h1 h2
  simp only [List.getElem_map, List.getElem_set]
  split
  · subst_vars
    rw [h]; simp [itN, List.getD_eq_getElem?_getD, hk]
  · rfl
section
variable {e : TypeId} {w : World} {B lo g n cap : Nat} {l : List It}
theorem OwIt.setX (h : OwIt e w B lo (.slice (some ⟨g, 0, none⟩) n cap) l) (hn : l.length = n) (j : Nat) (u : Value) (l' : List It) (xs' : List Value → List Value) (hl : l'.length = l.length)
    (hx : ∀ xs, xs.length = l.length → itcs l' (xs' xs) = (itcs l xs).set j u) (hr : ∀ (w' : World) xs, RowsL w' lo (some g) xs (l.map (·.b)) → RowsL w' lo (some g) (xs' xs) (l'.map (·.b))) :
    OwIt e (w.setCell ⟨g, j, none⟩ u) B lo (.slice (some ⟨g, 0, none⟩) n cap) l' ∧ w.grownBy (w.setCell ⟨g, j, none⟩ u) (some g) := by
  subst hn
  obtain ⟨xs, h1, h2, h3⟩ := h
  have hxl : xs.length = l.length := by have := h2.1; simpa using this
  obtain ⟨k1, k2⟩ := h1.stored j u
  refine ⟨⟨xs' xs, ?_, hr _ _ (h2.grown k2 (.inl rfl) (.inl rfl)), by rw [hl]; exact h3⟩, k2⟩
  rw [hx xs hxl, hl]; exact k1
theorem OwIt.setD (h : OwIt e w B lo (.slice (some ⟨g, 0, none⟩) n cap) l) (hn : l.length = n) (k : Nat) (hk : k < n) (d : Int) :
    OwIt e (w.setCell ⟨g, k * 3, none⟩ (.int .i64 d)) B lo (.slice (some ⟨g, 0, none⟩) n cap) (l.set k ⟨d, (itN l k).a, (itN l k).b⟩) ∧ w.grownBy (w.setCell ⟨g, k * 3, none⟩ (.int .i64 d)) (some g) :=
  h.setX hn _ _ _ (fun xs => xs) (by simp) (fun xs hx => itcs_setD l xs k d hx (by omega)) fun w' xs h => by rw [map_set_same l k ⟨d, (itN l k).a, (itN l k).b⟩ rfl (by omega)]; exact h
theorem OwIt.setA (h : OwIt e w B lo (.slice (some ⟨g, 0, none⟩) n cap) l) (hn : l.length = n) (k : Nat) (hk : k < n) (a : Int) :
    OwIt e (w.setCell ⟨g, k * 3 + 1, none⟩ (.int .i64 a)) B lo (.slice (some ⟨g, 0, none⟩) n cap) (l.set k ⟨(itN l k).d, a, (itN l k).b⟩) ∧ w.grownBy (w.setCell ⟨g, k * 3 + 1, none⟩ (.int .i64 a)) (some g) :=
  h.setX hn _ _ _ (fun xs => xs) (by simp) (fun xs hx => itcs_setA l xs k a hx (by omega)) fun w' xs h => by rw [map_set_same l k ⟨(itN l k).d, a, (itN l k).b⟩ rfl (by omega)]; exact h
/-- Data cut short. -/
theorem OwIt.cell (h : OwIt e w B lo (.slice (some ⟨g, 0, none⟩) n cap) l) (hn : l.length = n) (k : Nat) (hk : k < n) :
    ∃ D c, w.rangeAt g (k * 3) [.int .i64 (itN l k).d, .int .i64 (itN l k).a, .slice D (itN l k).b.length c] ∧ (itN l k).b.length ≤ c ∧ ∀ m, m ≤ (itN l k).b.length →
      OwIt e (w.setCell ⟨g, k * 3 + 2, none⟩ (.slice D m c)) B lo (.slice (some ⟨g, 0, none⟩) n cap) (l.set k ⟨(itN l k).d, (itN l k).a, (itN l k).b.take m⟩) ∧ w.grownBy (w.setCell ⟨g, k * 3 + 2, none⟩ (.slice D m c)) (some g) := by
  subst hn
  have h' := h
  obtain ⟨xs, h1, h2, h3⟩ := h
  have hxl : xs.length = l.length := by have := h2.1; simpa using this
  obtain ⟨D, c', hx, hc, hr, hne⟩ := h2.2 k (by simpa using hk)
  rw [itB_get hk] at hx hr hc hne
  refine ⟨D, c', fun j u hj => ?_, hc, fun m hm => ?_⟩
  · have hj3 : j < 3 := (List.getElem?_eq_some_iff.1 hj).1
    rw [rx_cell_at h1 _ (by rw [itcs_len _ _ hxl]; omega), itcs_get l xs k _ hxl hx j hj3]
    exact hj
  · obtain ⟨k1, k2⟩ := h1.stored (k * 3 + 2) (.slice D m c')
    have ht : ((itN l k).b.take m).length = m := by rw [List.length_take]; omega
    have R0 := h2.grown k2 (.inl rfl) (.inl rfl)
    refine ⟨⟨xs.set k (.slice D m c'), ?_, ⟨by simpa using hxl, fun i hi => ?_⟩, by simp; omega⟩, k2⟩
    · rw [itcs_setB l xs k _ _ hxl hk, List.length_set]; exact k1
    · simp only [List.length_map, List.length_set] at hi
      by_cases hik : i = k
      · subst hik
        have e1 : ((l.set i ⟨(itN l i).d, (itN l i).a, (itN l i).b.take m⟩).map (·.b)).getD i [] = (itN l i).b.take m := by simp [List.getD_eq_getElem?_getD, hi]
        obtain ⟨A', c2, q1, q2, q3, q4⟩ := R0.2 i (by simpa using hi)
        rw [itB_get hi] at q1 q2 q3 q4
        obtain ⟨e3, e4, e5⟩ : D = A' ∧ True ∧ c' = c2 := by
          rw [hx] at q1; injection q1 with q1; injection q1 with r1 r2 r3; exact ⟨r1, trivial, r3⟩
        subst e3 e5
        rw [e1, ht]
        refine ⟨D, c', by rw [List.getElem?_set_self (by omega)], by omega, ?_, fun h0 => hne (by omega)⟩
        refine ⟨by rw [ht]; have := q3.1; omega, fun h0 => ?_⟩
        obtain ⟨b, off, rfl, hb, hcell⟩ := q3.2 (by omega)
        refine ⟨b, off, rfl, hb, fun j hj => ?_⟩
        rw [ht] at hj
        rw [hcell j (by omega)]
        simp [List.getD_eq_getElem?_getD, List.getElem?_take, hj]
      · have e1 : ((l.set k ⟨(itN l k).d, (itN l k).a, (itN l k).b.take m⟩).map (·.b)).getD i [] = (l.map (·.b)).getD i [] := by
          simp [List.getD_eq_getElem?_getD, List.getElem?_set_ne (Ne.symm hik)]
        rw [e1, List.getElem?_set_ne (Ne.symm hik)]
        exact R0.2 i (by simpa using hi)
end
end Go.Proofs.YtfgiomidlfoonaaDoor
