/- A Record in memory: its Items read; Items of one's own. -/
import Derived.Test.YtfgiomidlfoonaaDoorProg
import Derived.Test.YtfgiomidlfoonaaDoorRows2
import Derived.Test.YtfgiomidlfoonaaDoorOwn
import Derived.Test.YtfgiomidlfoonaaDoorRecMath
import Derived.Deep.MidRow
set_option linter.unusedVariables false
set_option linter.unusedSimpArgs false
namespace Go.Proofs.YtfgiomidlfoonaaDoor
open Go.RowKit

theorem rx_cell_at {w : World} {B g n cap : Nat} {e : TypeId} {size : Nat} {xs : List Value} (h : w.ownsRow B e size (.slice (some ⟨g, 0, none⟩) n cap) n xs) (j : Nat) (hj : j < xs.length) : w.cell? ⟨g, j, none⟩ = xs[j]? := by
  rcases h.2 with ⟨h1, _⟩ | ⟨g', cap', cur, h1, h2, h3, h4, h5, h6, h7⟩
  · cases h1
  · injection h1 with h8 _ h9
    injection h8 with h8
    injection h8 with h8 _ _
    subst h8 h9
    have hx := h.1
    rw [cell_of_row w g j cur e (0, 0) h3, ← h7, List.getElem?_take, if_pos (by omega), Array.getElem?_toList]
theorem rx_form {w : World} {B n : Nat} {e : TypeId} {size : Nat} {v : Value} {xs : List Value} (h : w.ownsRow B e size v n xs) : ∃ A c, v = .slice A n c ∧ n ≤ c ∧ (0 < n → ∃ g, A = some ⟨g, 0, none⟩ ∧ B ≤ g) := by
  rcases h.2 with ⟨rfl, rfl⟩ | ⟨g, cap, cur, rfl, hB, _, hc, _⟩
  · exact ⟨none, 0, rfl, Nat.le_refl _, fun h => by omega⟩
  · exact ⟨_, cap, rfl, hc, fun _ => ⟨g, rfl, hB⟩⟩
theorem rangeAt_keep {w w' : World} {b o : Nat} {cs : List Value} (h : w.rangeAt b o cs) (hk : ∀ k, w'.cell? ⟨b, k, none⟩ = w.cell? ⟨b, k, none⟩) : w'.rangeAt b o cs := fun j v hj => (hk _).trans (h j v hj)
/-- The cells of Items whose Data lie there. -/
def itcs : List It → List Value → List Value
  | x :: l, u :: xs => .int .i64 x.d :: .int .i64 x.a :: u :: itcs l xs
  | _, _ => []
theorem itcs_len : ∀ (l : List It) (xs : List Value), xs.length = l.length → (itcs l xs).length = l.length * 3
  | [], xs, _ => by simp [itcs]
  | x :: l, [], h => by simp at h
  | x :: l, u :: xs, h => by
    have := itcs_len l xs (by simpa using h)
    simp only [itcs, List.length_cons]; omega
theorem itcs_snoc : ∀ (l : List It) (xs : List Value) (x : It) (u : Value), xs.length = l.length → itcs (l ++ [x]) (xs ++ [u]) = itcs l xs ++ [.int .i64 x.d, .int .i64 x.a, u]
  | [], [], _, _, _ => rfl
  | [], _ :: _, _, _, h => by simp at h
  | _ :: _, [], _, _, h => by simp at h
  | y :: l, u :: xs, x, v, h => by
    have := itcs_snoc l xs x v (by simpa using h)
    simp only [List.cons_append, itcs, this]
theorem itcs_get : ∀ (l : List It) (xs : List Value) (k : Nat) (u : Value), xs.length = l.length → xs[k]? = some u → ∀ j, j < 3 → (itcs l xs)[k * 3 + j]? = [.int .i64 (itN l k).d, .int .i64 (itN l k).a, u][j]?
  | [], [], k, u, _, h, _, _ => by simp at h
  | [], _ :: _, _, _, h, _, _, _ => by simp at h
  | _ :: _, [], _, _, h, _, _, _ => by simp at h
  | x :: l, v :: xs, 0, u, _, h, j, hj => by
    obtain rfl : v = u := by simpa using h
    match j, hj with
    | 0, _ => rfl
    | 1, _ => rfl
    | 2, _ => rfl
  | x :: l, v :: xs, k + 1, u, hl, h, j, hj => by
    have := itcs_get l xs k u (by simpa using hl) (by simpa using h) j hj
    rw [show (k + 1) * 3 + j = k * 3 + j + 1 + 1 + 1 by omega]
    exact this
/-- All their numbers are whole numbers of 64 digits. -/
def Its64 (l : List It) : Prop := ∀ k, k < l.length → It64 (itN l k)
/-- The slice of Items reads as these. -/
def RdI (w : World) (B : Nat) (A : Option Addr) (l : List It) : Prop :=
  l.length ≤ 140737488355328 ∧ (0 < l.length → ∃ b, A = some ⟨b, 0, none⟩ ∧ b < B ∧ ∀ k, k < l.length → ∃ D c, w.rangeAt b (k * 3) [.int .i64 (itN l k).d, .int .i64 (itN l k).a, .slice D (itN l k).b.length c] ∧ RdB w B D (itN l k).b)
theorem RdI.keep {w w' : World} {B B' : Nat} {A : Option Addr} {l : List It} (h : RdI w B A l) (hB : B ≤ B') (hk : ∀ p : Addr, p.block < B → w'.cell? p = w.cell? p) : RdI w' B' A l :=
  ⟨h.1, fun hn => by
    obtain ⟨b, e, hb, hc⟩ := h.2 hn
    refine ⟨b, e, by omega, fun k hk' => ?_⟩
    obtain ⟨D, c, h1, h2⟩ := hc k hk'
    exact ⟨D, c, rangeAt_keep h1 fun j => hk ⟨b, j, none⟩ hb, h2.keep hB hk⟩⟩
theorem RdI.below {w w' : World} {B B' : Nat} {A : Option Addr} {l : List It} (h : RdI w B A l) (hb : Below B' w w') (hB : B ≤ B') : RdI w' B A l := h.keep (Nat.le_refl _) fun p hp => hb.cell (by omega)
theorem RdI.more {w : World} {B B' : Nat} {A : Option Addr} {l : List It} (h : RdI w B A l) (hB : B ≤ B') : RdI w B' A l := h.keep hB fun _ _ => rfl
theorem RdI.later {w w' : World} {A : Option Addr} {l : List It} (h : RdI w w.heap.size A l) (hb : Below w.heap.size w w') : RdI w' w'.heap.size A l := (h.below hb (Nat.le_refl _)).more hb.size
theorem RdI.nil (w : World) (B : Nat) (A : Option Addr) : RdI w B A [] := ⟨by simp, fun h => by simp at h⟩
theorem itN_take {l : List It} {i k : Nat} (h : k < i) : itN (l.take i) k = itN l k := by
  simp [itN, List.getD_eq_getElem?_getD, h]
theorem RdI.take {w : World} {B : Nat} {A : Option Addr} {l : List It} (h : RdI w B A l) (i : Nat) : RdI w B A (l.take i) :=
  ⟨by have := h.1; simp; omega, fun hn => by
    have hn' : 0 < l.length := by simp at hn; omega
    obtain ⟨b, e, hb, hc⟩ := h.2 hn'
    refine ⟨b, e, hb, fun k hk => ?_⟩
    have hk' : k < i ∧ k < l.length := by simp at hk; omega
    rw [itN_take hk'.1]
    exact hc k hk'.2⟩
theorem itB_get {l : List It} {k : Nat} (hk : k < l.length) : (l.map (·.b)).getD k [] = (itN l k).b := by
  simp [itN, List.getD_eq_getElem?_getD, hk]
end Go.Proofs.YtfgiomidlfoonaaDoor
