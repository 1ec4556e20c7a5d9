/- The numbers in a row: Numbers. -/
import Derived.Test.YtabeadbnoifedaaPlaceOf
import Derived.Test.YtabeadbnoifedaaOwnInt
set_option linter.unusedVariables false
set_option linter.unusedSimpArgs false
namespace Go.Proofs.Ytabeadbnoifedaa
open Go.RowKit

/-- The first k numbers are there, the others are zeros yet. -/
def plNumsTo (l d c r : Int) (n k : Nat) : List Int := (List.range k).map (fun j : Nat => plN l d c r (j : Int)) ++ List.replicate (n - k) 0
theorem plNumsTo_len (l d c r : Int) {n k : Nat} (h : k ≤ n) : (plNumsTo l d c r n k).length = n := by simp [plNumsTo]; omega
theorem plNumsTo_zero (l d c r : Int) (n : Nat) : plNumsTo l d c r n 0 = List.replicate n 0 := by simp [plNumsTo]
theorem plNumsTo_succ (l d c r : Int) {n k : Nat} (h : k < n) : (plNumsTo l d c r n k).set k (plN l d c r (k : Int)) = plNumsTo l d c r n (k + 1) := by
  unfold plNumsTo
  rw [List.set_append_right _ _ (by simp), show n - k = (n - (k + 1)) + 1 by omega, List.replicate_succ, List.length_map, List.length_range, Nat.sub_self, List.set_cons_zero, List.range_succ, List.map_append, List.append_assoc]
  rfl
theorem plNumsTo_all {l d c r : Int} {n : Nat} (h : plOk l d c r = true) (hn : gWid l d c = n) : plNumsTo l d c r n n = plNums l d c r := by
  have hg := (plOk_yes h).1
  rw [gWid_yes hg] at hn
  unfold plNums plNumsTo
  rw [if_pos h, hn]
  simp
theorem plNums_no {l d c r : Int} (h : plOk l d c r = false) : plNums l d c r = [] := if_neg (by rw [h]; decide)
theorem plNums_len {l d c r : Int} (h : plOk l d c r = true) : (plNums l d c r).length = (gWid l d c).toNat := by
  have hg := (plOk_yes h).1
  rw [gWid_yes hg]
  unfold plNums
  rw [if_pos h]
  simp
theorem plNums_get {l d c r : Int} (h : plOk l d c r = true) {k : Nat} (hk : (k : Int) < gWid l d c) : (plNums l d c r).getD k 0 = plN l d c r (k : Int) := by
  have hg := (plOk_yes h).1
  rw [gWid_yes hg] at hk
  unfold plNums
  rw [if_pos h]
  have : k < (d - (l - 4)).toNat := by omega
  simp [this]
theorem GS.set {w0 W : World} {B b : Nat} {l d c : Int} (h : GS w0 B b l d c W) {p : Addr} (hp : B ≤ p.block) (hne : p.block ≠ b) (u : Value) : GS w0 B b l d c (W.setCell p u) :=
  ⟨(World.cell?_setCell_far _ _ _ _ hne).trans h.1, (World.cell?_setCell_far _ _ _ _ hne).trans h.2.1, (World.cell?_setCell_far _ _ _ _ hne).trans h.2.2.1, h.2.2.2.setCell hp u⟩
end Go.Proofs.Ytabeadbnoifedaa
