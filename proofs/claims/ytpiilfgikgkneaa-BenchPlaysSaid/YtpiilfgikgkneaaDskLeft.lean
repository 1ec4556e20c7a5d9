/- What is left of a sector by a crash: plain. -/
import Derived.Test.YtpiilfgikgkneaaDskAll
import Derived.Test.YtpiilfgikgkneaaMakeS
import Derived.Test.YtpiilfgikgkneaaPlaySec
namespace Go.Proofs.Ytpiilfgikgkneaa
open Go.RowKit

theorem wrap_bd (x : Int) : -9223372036854775808 ≤ wrap64 x ∧ wrap64 x ≤ 9223372036854775807 := by
  have := IntKind.wrap_i64 x
  unfold wrap64
  omega
theorem keptOf_snoc : ∀ (ps : List (Nat × List UInt8)) (p : Nat × List UInt8) (ks : List Bool), keptOf (ps ++ [p]) ks = keptOf ps ks ++ (if ks.getD ps.length false = true then [p] else [])
  | [], p, [] => by simp [keptOf]
  | [], p, k :: ks => by cases k <;> simp [keptOf]
  | q :: ps, p, [] => by simp [keptOf]
  | q :: ps, p, k :: ks => by
    have ih := keptOf_snoc ps p ks
    show (if k then q :: keptOf (ps ++ [p]) ks else keptOf (ps ++ [p]) ks) = (if k then q :: keptOf ps ks else keptOf ps ks) ++ _
    rw [ih]
    cases k <;> simp
/-- Sector k behind a crash that keeps ks. -/
def Dsk.left (D : Dsk) (ks : List Bool) (k : Nat) : List UInt8 := secAt (D.crash ks).S k
theorem left_write {D : Dsk} (h : D.Ok) {k : Nat} {x : List UInt8} (hk : k < 52) (hx : x.length = 32) (ks : List Bool) : (D.write k x).left ks k = if ks.getD D.ps.length false = true then x else D.left ks k := by
  unfold Dsk.left Dsk.crash Dsk.write
  simp only []
  rw [keptOf_snoc]
  split
  · rw [nowOf_append]
    show secAt (putAt (nowOf D.S (keptOf D.ps ks)) k x) k = x
    exact sec_put_same (nowOf_len h.S h.ps.kept) hk hx
  · rw [List.append_nil]
theorem left_first (k : Nat) (x : List UInt8) (hk : k < 52) (hx : x.length = 32) (ks : List Bool) : ((Dsk.new.write k x).flush).left ks k = x := by
  show secAt (putAt zeroS k x) k = x
  exact sec_put_same zeroS_len hk hx
end Go.Proofs.Ytpiilfgikgkneaa
