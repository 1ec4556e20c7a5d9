/- synd's contracts, the result told as an own slice of known bytes. -/
import Derived.Test.YtfbfodcjfcnfoaaSyndQ
namespace Go.Proofs.Ytfbfodcjfcnfoaa
open Go.RowKit

/-- An own slice of these bytes came back; nothing old has turned. -/
def Gives (w : World) (p : List UInt8) (e : Ending) (w' : World) : Prop := ∃ A c, e = .returned (.slice A p.length c) ∧ OwB 5 w' w.heap.size (.slice A p.length c) p ∧ Below w.heap.size w w'
theorem gives_of {w : World} {p q : List UInt8} (hp : p = q) {e : Ending} {w' : World} (h : ∃ v, e = .returned v ∧ OwB 5 w' w.heap.size v p ∧ Below w.heap.size w w') : Gives w q e w' := by
  subst hp
  obtain ⟨v, he, ho, hb⟩ := h
  obtain ⟨A, c, rfl, _, _⟩ := ho.rd
  exact ⟨A, c, he, ho, hb⟩
theorem p_gives {A : Option Addr} {rs : List (List UInt8)} {n cp : Nat} {w : World} {p : List UInt8} (hr : RdR w w.heap.size A rs) (hn : rs.length = n) (hp : pB rs = p) : Calls Try.prog 28 #[.slice A n cp] w (Gives w p) :=
  (p_any A rs n cp w hn hr).mono fun _ _ h => gives_of hp h
theorem q_gives {A : Option Addr} {rs : List (List UInt8)} {n cp : Nat} {w : World} {p : List UInt8} (hr : RdR w w.heap.size A rs) (hn : rs.length = n) (hp : qB rs = p) : Calls Try.prog 29 #[.slice A n cp] w (Gives w p) :=
  (q_any A rs n cp w hn hr).mono fun _ _ h => gives_of hp h
theorem add_gives {A A' : Option Addr} {a b p : List UInt8} {n n' c c' B B' : Nat} {w : World} (h : OwB 5 w B (.slice A n c) a) (h' : OwB 5 w B' (.slice A' n' c') b) (hp : pB [a, b] = p) : Calls Try.prog 27 #[.slice A n c, .slice A' n' c'] w (Gives w p) :=
  (add_any A A' a b n n' c c' w.heap.size w h.rdS.2.1 h'.rdS.2.1 h.rdS.1 h'.rdS.1 (Nat.le_refl _)).mono fun _ _ h => gives_of hp h
theorem scale_gives {A : Option Addr} {a p : List UInt8} {n c f B : Nat} {w : World} (h : OwB 5 w B (.slice A n c) a) (hf : f < 256) (hp : scaleL a f = p) : Calls Try.prog 30 #[.slice A n c, .int .u8 (f : Int)] w (Gives w p) :=
  (scale_any A a n c f w h.rdS.2.1 hf h.rdS.1).mono fun _ _ h => gives_of hp h
/-- Two own slices with the same bytes are the same. -/
theorem same_own {w : World} {B B' : Nat} {A A' : Option Addr} {n n' c c' : Nat} {bs : List UInt8} (h : OwB 5 w B (.slice A n c) bs) (h' : OwB 5 w B' (.slice A' n' c') bs) :
    Calls Try.prog 14 #[.slice A n c, .slice A' n' c'] w fun e w' => e = .returned (.bool true) ∧ ∃ m, w' = w.drewN m :=
  (same_any A A' n n' c c' _ bs bs w h.rdS.2.1 h'.rdS.2.1 h.rdS.1 h'.rdS.1).mono fun _ _ ⟨he, hw⟩ => ⟨by rw [he, decide_eq_true rfl], hw⟩
theorem same_not {w : World} {B B' : Nat} {A A' : Option Addr} {n n' c c' : Nat} {bs bs' : List UInt8} (h : OwB 5 w B (.slice A n c) bs) (h' : OwB 5 w B' (.slice A' n' c') bs') (hne : bs ≠ bs') :
    Calls Try.prog 14 #[.slice A n c, .slice A' n' c'] w fun e w' => e = .returned (.bool false) ∧ ∃ m, w' = w.drewN m :=
  (same_any A A' n n' c c' _ bs bs' w h.rdS.2.1 h'.rdS.2.1 h.rdS.1 h'.rdS.1).mono fun _ _ ⟨he, hw⟩ => ⟨by rw [he, decide_eq_false hne], hw⟩
end Go.Proofs.Ytfbfodcjfcnfoaa
