/- The document's own sector of a Super: its parts. -/
import Derived.Test.YtiipdhmfdgbmiaaDoorTbaf
import Derived.Test.YtiipdhmfdgbmiaaDoorTbah
import Derived.Test.YtiipdhmfdgbmiaaDoorTbaa
import Derived.Great.BuildSlice
set_option linter.unusedVariables false
set_option linter.unusedSimpArgs false
namespace Go.Proofs.YtiipdhmfdgbmiaaDoor
open Go.RowKit

theorem own_lit {e : TypeId} {W : World} {C : Array Value} {n : Nat} (bs : List UInt8) (hC : C.toList = bs.map bv) (hn : bs.length = n) (h : n ≤ 100000) : OwB e (W.alloc (.cells C e)) W.heap.size (.slice (some ⟨W.heap.size, 0, none⟩) n n) bs := by
  subst hn
  have hs : C.size = bs.length := by rw [← Array.length_toList, hC, List.length_map]
  have hh := World.ownsRow_lit (base := W.heap.size) (e := e) (size := 1) W C bs.length (Nat.le_refl _) (by unfold maxLen; omega) (by omega)
  rw [hC] at hh
  exact ⟨hh, by omega⟩
theorem own_lit_at {e : TypeId} {W W1 : World} {C : Array Value} {n g : Nat} (hg : g = W1.heap.size) (hW : W.heap.size ≤ W1.heap.size) (bs : List UInt8) (hC : C.toList = bs.map bv) (hn : bs.length = n) (h : n ≤ 100000) : OwB e (W1.alloc (.cells C e)) W.heap.size (.slice (some ⟨g, 0, none⟩) n n) bs := by
  subst hg
  exact (own_lit bs hC hn h).le hW
theorem byN_u8 {n : Int} (hn : 0 ≤ n) (k : Nat) (hk : k < 4) : n / 256 ^ k % 256 = ((byN n k).toNat : Int) := by
  obtain ⟨m, rfl⟩ := Int.eq_ofNat_of_zero_le hn
  match k, hk with
  | 0, _ => simp only [byN, UInt8.toNat_ofNat']; omega
  | 1, _ => simp only [byN, UInt8.toNat_ofNat']; omega
  | 2, _ => simp only [byN, UInt8.toNat_ofNat']; omega
  | 3, _ => simp only [byN, UInt8.toNat_ofNat']; omega
theorem refFour_any (n : Int) (w : World) (hn : 0 ≤ n ∧ n ≤ 2147483647) :
    Calls Tryd.prog 49 #[.int .i64 n] w fun e w' => ∃ g : Nat, e = .returned (.slice (some ⟨g, 0, none⟩) 4 4) ∧ OwB 5 w' w.heap.size (.slice (some ⟨g, 0, none⟩) 4 4) [byN n 3, byN n 2, byN n 1, byN n 0] ∧ Below w.heap.size w w' := by
  have e3 : n / 16777216 = ((byN n 3).toNat : Int) := by have := byN_u8 hn.1 3 (by omega); omega
  have e2 : n / 65536 % 256 = ((byN n 2).toNat : Int) := byN_u8 hn.1 2 (by omega)
  have e1 : n / 256 % 256 = ((byN n 1).toNat : Int) := byN_u8 hn.1 1 (by omega)
  have e0 : n % 256 = ((byN n 0).toNat : Int) := by have := byN_u8 hn.1 0 (by omega); omega
  generalize byN n 3 = b3 at e3
  generalize byN n 2 = b2 at e2
  generalize byN n 1 = b1 at e1
  generalize byN n 0 = b0 at e0
  go_enter Tryd.func49, Tryd.ntmps49
  go_wp2
  go_ret
  exact ⟨_, rfl, own_lit [b3, b2, b1, b0] rfl rfl (by omega), below1 _ _⟩
theorem refGeom_any (l d c : Int) (w : World) (hl : 0 ≤ l ∧ l ≤ 255) (hd : 0 ≤ d ∧ d ≤ 255) (hc : 0 ≤ c ∧ c ≤ 255) :
    Calls Tryd.prog 50 #[.agg #[.int .i64 l, .int .i64 d, .int .i64 c]] w fun e w' => ∃ g : Nat, e = .returned (.slice (some ⟨g, 0, none⟩) 3 3) ∧ OwB 5 w' w.heap.size (.slice (some ⟨g, 0, none⟩) 3 3) [byN l 0, byN d 0, byN c 0] ∧ Below w.heap.size w w' := by
  have e2 : l = ((byN l 0).toNat : Int) := by have := byN_u8 hl.1 0 (by omega); omega
  have e1 : d = ((byN d 0).toNat : Int) := by have := byN_u8 hd.1 0 (by omega); omega
  have e0 : c = ((byN c 0).toNat : Int) := by have := byN_u8 hc.1 0 (by omega); omega
  generalize byN l 0 = b2 at e2
  generalize byN d 0 = b1 at e1
  generalize byN c 0 = b0 at e0
  subst e2 e1 e0
  go_enter Tryd.func50, Tryd.ntmps50
  go_wp2
  go_ret
  exact ⟨_, rfl, own_lit_at (W := w) (n := 3) (by simp) (by simp) [b2, b1, b0] rfl rfl (by omega), below2 _ _ _⟩
end Go.Proofs.YtiipdhmfdgbmiaaDoor
