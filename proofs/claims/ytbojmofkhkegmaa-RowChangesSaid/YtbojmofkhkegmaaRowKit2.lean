/- Small things for row's laws. -/
import Derived.Test.YtbojmofkhkegmaaRaai
import Derived.Test.YtbojmofkhkegmaaRowCount
set_option maxRecDepth 8000
set_option linter.unusedVariables false
set_option linter.unusedSimpArgs false
namespace Go.Proofs.Ytbojmofkhkegmaa
open Go.RowKit

theorem row_le {w : World} {base base' size n : Nat} {e : TypeId} {v : Value} {xs : List Value} (h : w.ownsRow base e size v n xs) (hb : base' ≤ base) : w.ownsRow base' e size v n xs :=
  ⟨h.1, h.2.imp id fun ⟨g, cap, cur, h1, h2, h3⟩ => ⟨g, cap, cur, h1, Nat.le_trans hb h2, h3⟩⟩
theorem row_form {w : World} {base size n : Nat} {e : TypeId} {v : Value} {xs : List Value} (h : w.ownsRow base e size v n xs) (hn : 0 < n) : ∃ g cap, v = .slice (some ⟨g, 0, none⟩) n cap ∧ base ≤ g ∧ g < w.heap.size ∧ n ≤ cap := by
  rcases h.2 with ⟨_, h0⟩ | ⟨g, cap, cur, hv, hb, hg, hc, _⟩
  · omega
  · exact ⟨g, cap, hv, hb, (Array.getElem?_eq_some_iff.1 hg).1, hc⟩
theorem or_u8 (a b : UInt8) : bits .or .u8 (a.toNat : Int) (b.toNat : Int) = (((a ||| b).toNat : Nat) : Int) := by
  rw [u8_or_nat _ _ a.toNat_lt b.toNat_lt, UInt8.toNat_or]
theorem or_one_ne (a : UInt8) : a ||| 1 ≠ 0 := by
  intro h
  have h2 : (a ||| 1).toNat % 2 = 0 := by rw [h]; rfl
  rw [UInt8.toNat_or, show (1 : UInt8).toNat = 1 from rfl] at h2
  have h3 : (a.toNat ||| 1) % 2 = 1 := by
    rw [Nat.or_mod_two_eq_one]; exact .inr rfl
  omega
theorem set_ne_zero {s : List UInt8} (hs : s.length = 32) (a : UInt8) : s.set 0 (a ||| 1) ≠ zeroL 32 := fun e => by
  have e2 := congrArg (fun t : List UInt8 => t.getD 0 0) e
  have e3 : (s.set 0 (a ||| 1)).getD 0 0 = a ||| 1 := by simp [List.getD_eq_getElem?_getD, hs]
  exact or_one_ne a (e3.symm.trans e2)
end Go.Proofs.Ytbojmofkhkegmaa
