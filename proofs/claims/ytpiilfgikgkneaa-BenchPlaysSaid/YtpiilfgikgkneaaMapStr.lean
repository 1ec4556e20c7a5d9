/- A map of texts by whole numbers, that a call made. -/
import Derived.Test.YtpiilfgikgkneaaMapKey
namespace Go.Proofs.Ytpiilfgikgkneaa
open Go.RowKit

/-- Bytes as a text. -/
def str (bs : List UInt8) : Value := .string ⟨bs.toArray⟩
theorem zeroStr (w : World) : (zeroValue 9).run Try.prog w = .ok (.string ⟨#[]⟩) w := by kernel_rfl
theorem str_mk (bs : List UInt8) (hb : bs.length ≤ 1000) : plainElem (H := Unit) Try.prog 9 (str bs) = some (.lit (.string bs), []) := by
  have h := plainElem_string (H := Unit) Try.underlying9 (s := ⟨bs.toArray⟩) (by show bs.toArray.size ≤ maxLen; simp; unfold maxLen; omega)
  simpa [str] using h
theorem str_inv {v : Value} {bs : List UInt8} {ps : List MemPlace} (h : plainElem (H := Unit) Try.prog 9 v = some (.lit (.string bs), ps)) : v = str bs := by
  unfold plainElem at h
  rw [Try.underlying9] at h
  cases v <;> simp at h
  rename_i s
  obtain ⟨_, h, _⟩ := h
  subst h
  simp [str]
/-- Block B is a map of at most n entries that reads as F. -/
def MapS (w : World) (B n : Nat) (F : Int → Option (List UInt8)) : Prop :=
  ∃ D : DataW Unit, w.ownsMap Try.prog 3 (plainElem Try.prog 9) B n D ∧ ∀ x : Int, D.atKey (.int .i64 x) (.lit (.string [])) = .lit (.string ((F x).getD []))
theorem mapS_new (w : World) : MapS (w.alloc (.map #[] 0)) w.heap.size 0 (fun _ => none) := ⟨.map [], World.ownsMap_made _ _ _ _, fun _ => rfl⟩
section
variable {w w' : World} {B n : Nat} {F : Int → Option (List UInt8)}
theorem MapS.lt (h : MapS w B n F) : B < w.heap.size := by obtain ⟨D, ho, _⟩ := h; exact ho.lt
theorem MapS.kept {row : Option Nat} (h : MapS w B n F) (hg : w.grownBy w' row) (hne : some B ≠ row) : MapS w' B n F := by obtain ⟨D, ho, hr⟩ := h; exact ⟨D, ho.kept hg hne, hr⟩
theorem MapS.heap (h : MapS w B n F) (hb : w'.heap[B]? = w.heap[B]?) : MapS w' B n F := by
  obtain ⟨D, ho, hr⟩ := h
  obtain ⟨es, clock, hb', r⟩ := ho
  exact ⟨D, ⟨es, clock, hb.trans hb', r⟩, hr⟩
theorem MapS.look (h : MapS w B n F) (x : Int) (hx : -9223372036854775808 ≤ x ∧ x ≤ 9223372036854775807) : (Instr.lookup 67 (.map (some B)) (.int .i64 x) false).run Try.prog w = .ok (str ((F x).getD [])) w := by
  obtain ⟨D, ho, hr⟩ := h
  obtain ⟨v, ps, hrun, hv⟩ := ho.lookup keyI Try.underlying67 (zeroStr w) (str_mk [] (by simp)) (keyI_of x (WalkArith.wf_i64 hx))
  rw [hr x] at hv
  rw [hrun, str_inv hv]
theorem MapS.store (h : MapS w B n F) (hn : n < 1000000) (x : Int) (y : List UInt8) (hx : -9223372036854775808 ≤ x ∧ x ≤ 9223372036854775807) (hy : y.length ≤ 1000) :
    ∃ w', (Instr.mapUpdate 67 (.map (some B)) (.int .i64 x) (str y)).run Try.prog w = .ok () w' ∧ MapS w' B (n + 1) (putF F x y) ∧ w.grownBy w' (some B) := by
  obtain ⟨D, ho, hr⟩ := h
  obtain ⟨w', hrun, ho', hg⟩ := ho.update keyI Try.underlying67 (by unfold maxLen; omega) (keyI_of x (WalkArith.wf_i64 hx)) (str_mk y hy)
  refine ⟨w', hrun, ⟨_, ho', fun z => ?_⟩, hg⟩
  unfold putF
  by_cases e : z = x
  · subst e
    rw [if_pos rfl]
    exact Maps.atKey_put_same ho.isMap (keyLitI z) _ _
  · rw [if_neg e]
    have hne : Lit.int .i64 z ≠ Lit.int .i64 x := fun h => e (lit_int_inj h)
    exact (Maps.atKey_put_other hne _ _).trans (hr z)
end
end Go.Proofs.Ytpiilfgikgkneaa
