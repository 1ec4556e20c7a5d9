/- What lies off a disk stays when the disk changes. -/
import Derived.Test.YtpiilfgikgkneaaDskLeft
import Derived.Test.YtpiilfgikgkneaaPlaySec
namespace Go.Proofs.Ytpiilfgikgkneaa
open Go.RowKit

theorem write_sec {D : Dsk} (h : D.Ok) {k : Nat} {x : List UInt8} (hk : k < 52) (hx : x.length = 32) : secAt (D.write k x).now k = x := by
  rw [Dsk.write_now]; exact sec_put_same h.now hk hx
theorem wrE {D : Dsk} {k : Nat} {x : List UInt8} (hf : D.f = false) (hk : k < 52) (hx : x.length = 32) : takeE D.f (k : Int) 32 = 0 ∧ D.writeE (k : Int) x = D.write k x := by
  have h := takeE_ok (k := (k : Int)) (by omega) (by omega)
  rw [← hf] at h
  refine ⟨h, ?_⟩
  unfold Dsk.writeE
  rw [hx, if_pos h]
  rfl
theorem rdE {D : Dsk} {k : Nat} (hf : D.f = false) (hk : k < 52) : reachE D.f (k : Int) = 0 ∧ D.readE (k : Int) = secAt D.now k := by
  have h := reachE_ok (k := (k : Int)) (by omega) (by omega)
  rw [← hf] at h
  refine ⟨h, ?_⟩
  unfold Dsk.readE
  rw [if_pos h]
  rfl
theorem flE {D : Dsk} (hf : D.f = false) : (if D.f = true then (5 : Int) else 0) = 0 ∧ D.flushE = D.flush := by
  unfold Dsk.flushE
  rw [hf]
  exact ⟨rfl, rfl⟩
def Off (v : Value) (b : Nat) (pv : Value) : Prop := ∀ k, v.ownBlock = some k → ¬ DF b pv k
theorem off_new {w w' : World} {B B0 b : Nat} {pv v : Value} {D : Dsk} {e : TypeId} {xs : List UInt8} (hd : DskAt w B b pv D) (ho : OwB e w' B0 v xs) (hB : w.heap.size ≤ B0) : Off v b pv := fun k hk hF => by
  have h1 := (ho.lt k hk).1
  have h2 := hd.lt
  rcases hF with e | e
  · omega
  · have := (hd.plt k e).2; omega
theorem Off.step {w : World} {B0 b : Nat} {pv pv' v : Value} {e : TypeId} {xs : List UInt8} (h : Off v b pv) (ho : OwB e w B0 v xs) (hn : NewOr w pv pv') : Off v b pv' := fun k hk hF => by
  rcases hF with e | e
  · exact h k hk (.inl e)
  · rcases hn k e with e1 | e1
    · exact h k hk (.inr e1)
    · have := (ho.lt k hk).2; omega
theorem OwB.off {w w' : World} {B0 b : Nat} {pv v : Value} {e : TypeId} {xs : List UInt8} (ho : OwB e w B0 v xs) (h : Off v b pv) (hc : Chg (DF b pv) w w') : OwB e w' B0 v xs := ho.chg hc h
theorem DskAt.stay {w w' : World} {B b g : Nat} {pv v : Value} {D : Dsk} (hd : DskAt w B b pv D) (h : Off v b pv) (hg : v.ownBlock = some g) (hc : w.grownBy w' (some g)) : DskAt w' B b pv D :=
  hd.chg (chg_grown hc) (fun e => h g hg (.inl (Option.some.inj e))) fun k hk e => h g hg (.inr (by rw [hk, e]))
/-- Two disks beside one another. -/
def Apart (b : Nat) (pv : Value) (b2 : Nat) (pv2 : Value) : Prop := ∀ k, DF b pv k → ¬ DF b2 pv2 k
theorem Apart.symm {b b2 : Nat} {pv pv2 : Value} (h : Apart b pv b2 pv2) : Apart b2 pv2 b pv := fun k h2 h1 => h k h1 h2
theorem apart_new {w w' : World} {B b b2 : Nat} {pv pv2 : Value} {D D2 : Dsk} (hd : DskAt w B b pv D) (hd2 : DskAt w' w.heap.size b2 pv2 D2) : Apart b pv b2 pv2 := fun k h1 h2 => by
  have := DF.le hd2 h2
  rcases h1 with e | e
  · have := hd.lt; omega
  · have := (hd.plt k e).2; omega
theorem Apart.step {w : World} {B b b2 : Nat} {pv pv2 pv2' : Value} {D : Dsk} (h : Apart b pv b2 pv2) (hd : DskAt w B b pv D) (hn : NewOr w pv2 pv2') : Apart b pv b2 pv2' := fun k h1 h2 => by
  rcases h2 with e | e
  · exact h k h1 (.inl e)
  · rcases hn k e with e1 | e1
    · exact h k h1 (.inr e1)
    · rcases h1 with e2 | e2
      · have := hd.lt; omega
      · have := (hd.plt k e2).2; omega
theorem DskAt.apart {w w' : World} {B b b2 : Nat} {pv pv2 : Value} {D : Dsk} (hd : DskAt w B b pv D) (h : Apart b pv b2 pv2) (hc : Chg (DF b2 pv2) w w') : DskAt w' B b pv D :=
  hd.chg hc (fun e => h b (.inl rfl) e) fun k hk e => h k (.inr hk) e
end Go.Proofs.Ytpiilfgikgkneaa
